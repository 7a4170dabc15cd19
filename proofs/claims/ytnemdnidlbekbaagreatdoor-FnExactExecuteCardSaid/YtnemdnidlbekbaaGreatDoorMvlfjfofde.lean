/- Texts of one claim in one: Zw, Za, Zb, Zq, Zi, Zj, Zd, Tab, TxI, Zc, Md, Still, Ta, Mw, Ze, Zf, Zg, Zp, Zs, Zr, Zu, Zwb, Zv, Zk, Sp, Zm, Zn, Zo, Sp2, Sp3, Zx, Zy, Tz, Zl, Zll, ZL. -/
import Derived.Test.YtnemdnidlbekbaaGreatDoorTxt
import Derived.Test.YtnemdnidlbekbaaGreatDoorSa
import Derived.Test.YtnemdnidlbekbaaGreatDoorSg
import Derived.Test.YtnemdnidlbekbaaGreatDoorMvjlofhcpg
import Derived.Test.YtnemdnidlbekbaaGreatDoorCur2
import Derived.Maps.OwnOps
import Derived.Maps.OwnSet
import Derived.Test.YtnemdnidlbekbaaGreatDoorZh
import Derived.Test.YtnemdnidlbekbaaGreatDoorMk
import Derived.Deep.RegionHeld3
import Derived.Outline
import Derived.Test.YtnemdnidlbekbaaGreatDoorZt
import Derived.Lib.OthersKept
import Derived.Test.YtnemdnidlbekbaaGreatDoorSf
import Derived.Test.YtnemdnidlbekbaaGreatDoorRows
import Derived.Test.YtnemdnidlbekbaaGreatDoorKeep
import Derived.Lib.LaidTab
import Derived.LaidLaws
import Derived.WalkKit
import Derived.Below
import Derived.Lib.ItoaNum
import Derived.Test.YtnemdnidlbekbaaGreatDoorTx
import Derived.Test.YtnemdnidlbekbaaGreatDoorShelf
import Derived.Test.YtnemdnidlbekbaaGreatDoorLs
import Derived.LoopTactic
import Derived.IntWalk
import Derived.Lib.SliceRun
import Derived.StillTailTactics
import Derived.Lib.Hide
import Derived.Test.YtnemdnidlbekbaaGreatDoorHt
import Derived.Deep.QuietTactic
import Derived.Shelf.Strings.Split
import Derived.Test.YtnemdnidlbekbaaGreatDoorCur3
import Derived.Recover
import Derived.Defers
import Derived.FnLit
import Derived.Shelf.Strings.BuilderK
import Derived.Shelf.Strings.BuilderX
import Derived.Test.YtnemdnidlbekbaaGreatDoorNum
import Derived.WalkSpells
import Derived.Test.YtnemdnidlbekbaaGreatDoorCut
import Derived.Test.YtnemdnidlbekbaaGreatDoorRep
import Derived.BigQuiet
import Derived.Test.YtnemdnidlbekbaaGreatDoorSb
import Derived.Shelf.Vars
import Derived.Lib.IndexBytes
import Derived.Lib.Split
import Derived.Test.YtnemdnidlbekbaaGreatDoorDrEx2
import Derived.Test.YtnemdnidlbekbaaGreatDoorFr
namespace Go.Proofs.YtnemdnidlbekbaaGreatDoor
open Go.RowKit
set_option linter.unusedVariables false

/-- A text cut at a byte. -/
def cutL (x : UInt8) : List UInt8 → List (List UInt8)
  | [] => [[]]
  | c :: l => if c = x then [] :: cutL x l else match cutL x l with
    | [] => [[c]]
    | p :: ps => (c :: p) :: ps
theorem cutL_words (x : UInt8) : ∀ l : List UInt8, Words x l (cutL x l)
  | [] => ⟨[], [], rfl, rfl, by simp [cutL]⟩
  | c :: l => by
    obtain ⟨i, a, h1, h2, h3⟩ := cutL_words x l
    by_cases hc : c = x
    · subst hc
      refine ⟨[] :: i, a, by simp [cutL, h1], by rw [h2]; rfl, fun p hp => ?_⟩
      simp only [cutL, if_pos] at hp
      rcases List.mem_cons.1 hp with rfl | hp
      · simp
      · exact h3 p hp
    · match i, h1, h2 with
      | [], h1, h2 =>
        have e : cutL x (c :: l) = [c :: a] := by
          have h1 : cutL x l = [a] := h1
          rw [cutL, if_neg hc, h1]
        refine ⟨[], c :: a, e, by rw [h2]; rfl, fun p hp => ?_⟩
        rw [e] at hp
        obtain rfl := List.mem_singleton.1 hp
        have h4 := h3 a (by rw [h1]; simp)
        exact fun hm => by rcases List.mem_cons.1 hm with hm | hm; exact hc hm.symm; exact h4 hm
      | q :: i, h1, h2 =>
        have e : cutL x (c :: l) = (c :: q) :: (i ++ [a]) := by
          have h1 : cutL x l = q :: (i ++ [a]) := h1
          rw [cutL, if_neg hc, h1]
        refine ⟨(c :: q) :: i, a, e, by rw [h2]; rfl, fun p hp => ?_⟩
        rw [e] at hp
        rcases List.mem_cons.1 hp with rfl | hp
        · have h4 := h3 q (by rw [h1]; simp)
          exact fun hm => by rcases List.mem_cons.1 hm with hm | hm; exact hc hm.symm; exact h4 hm
        · exact h3 p (by rw [h1]; exact List.mem_cons_of_mem _ hp)
theorem words_cutL {x : UInt8} {l : List UInt8} {ps : List (List UInt8)} (h : Words x l ps) : ps = cutL x l := h.unique (cutL_words x l)
theorem cutL_pos (x : UInt8) (l : List UInt8) : 0 < (cutL x l).length := by
  obtain ⟨i, a, h, _⟩ := cutL_words x l
  rw [h]; simp
theorem cutL_first {x : UInt8} : ∀ {p : List UInt8} (r : List UInt8), x ∉ p → cutL x (p ++ x :: r) = p :: cutL x r
  | [], r, _ => by simp [cutL]
  | c :: p, r, h => by
    have hc : c ≠ x := fun e => h (by rw [e]; simp)
    have hp : x ∉ p := fun e => h (List.mem_cons_of_mem _ e)
    rw [List.cons_append, cutL, if_neg hc, cutL_first r hp]
/-- The words of a line. -/
def wd (ps : List (List UInt8)) (i : Nat) : List UInt8 := ps.getD i []
def wn (ps : List (List UInt8)) (i : Nat) : Int := digs (wd ps i)
def sSeries : List UInt8 := [115, 101, 114, 105, 101, 115]
def sFill : List UInt8 := [102, 105, 108, 108]
def sMean : List UInt8 := [109, 101, 97, 110]
def sChanges : List UInt8 := [99, 104, 97, 110, 103, 101, 115]
def sValues : List UInt8 := [118, 97, 108, 117, 101, 115]
def sRanges : List UInt8 := [114, 97, 110, 103, 101, 115]
def sReports : List UInt8 := [114, 101, 112, 111, 114, 116, 115, 32]
def sWhat : List UInt8 := [119, 104, 97, 116]
def sNo : List UInt8 := [110, 111]
def sOk : List UInt8 := [111, 107]
def sFull : List UInt8 := [102, 117, 108, 108]
def sLong : List UInt8 := [116, 111, 111, 32, 108, 111, 110, 103, 10]
/-- A name and the words of a list. -/
def lsT (name : List UInt8) (ws : List (List UInt8)) : List UInt8 := name ++ ws.flatMap fun u => 32 :: u
theorem lsT_snoc (name : List UInt8) (ws : List (List UInt8)) (u : List UInt8) : lsT name (ws ++ [u]) = lsT name ws ++ 32 :: u := by simp [lsT]
def dyW (z : Int) : List UInt8 := if z = -9999 then [45] else Lib.itoa z
def rgW (r : Int × Int) : List UInt8 := if r.1 = r.2 then Lib.itoa r.1 else Lib.itoa r.1 ++ 58 :: Lib.itoa r.2
end Go.Proofs.YtnemdnidlbekbaaGreatDoor
namespace Go.Proofs.YtnemdnidlbekbaaGreatDoor
open Go.RowKit
set_option linter.unusedVariables false

/-- The days that the first words of a line ask for. -/
def akOk (rs : List R4) (ps : List (List UInt8)) : Bool := ssOk rs (rs.length : Nat) (wn ps 1) (wn ps 2) (wn ps 3) (wn ps 4)
def akL (rs : List R4) (ps : List (List UInt8)) : List Int := ssL rs (rs.length : Nat) (wn ps 1) (wn ps 2) (wn ps 3) (wn ps 4)
def flT (rs : List R4) (ps : List (List UInt8)) : List UInt8 :=
  if gOk (akL rs ps) (kLo (wn ps 2)) (kHi (wn ps 2)) (wn ps 5) then lsT sRanges ((gRL (akL rs ps) (kLo (wn ps 2)) (kHi (wn ps 2)) (wn ps 5)).map rgW) else sNo
def meT (rs : List R4) (ps : List (List UInt8)) : List UInt8 :=
  if meB (akL rs ps) (wn ps 5) then sMean ++ 32 :: Lib.itoa (meV (akL rs ps) (wn ps 5)) else sNo
def seT (rs : List R4) (ps : List (List UInt8)) : List UInt8 := lsT sValues ((akL rs ps).map dyW)
def isAsk (u : List UInt8) : Bool := decide (u = sSeries) || (decide (u = sFill) || decide (u = sMean))
def akT (rs : List R4) (ps : List (List UInt8)) : List UInt8 :=
  if akOk rs ps then (if wd ps 0 = sFill then flT rs ps else if wd ps 0 = sMean then meT rs ps else seT rs ps) else sNo
def chT (rs : List R4) : List UInt8 := lsT sValues ((scL rs).map Lib.itoa)
/-- The report that a line is. -/
def IsRep (l : List UInt8) (r : R4) : Prop := Rep l (rS r) (rD r) (rK r) (rV r) ∧ rB r = true
theorem IsRep.one {l : List UInt8} {r q : R4} (h : IsRep l r) (h' : IsRep l q) : r = q := by
  obtain ⟨e1, e2, e3, e4⟩ := h.1.unique h'.1
  obtain ⟨r1, r2, r3, r4⟩ := r
  obtain ⟨q1, q2, q3, q4⟩ := q
  simp only [rS, rD, rK, rV] at e1 e2 e3 e4
  subst e1; subst e2; subst e3; subst e4; rfl
/-- What a line does: the store behind it, and the answer. -/
inductive Stp (rs : List R4) (l : List UInt8) : List R4 → List UInt8 → Prop
  | ask : isAsk (wd (cutL 32 l) 0) = true → Stp rs l rs (akT rs (cutL 32 l))
  | changes : l = sChanges → Stp rs l rs (chT rs)
  | add (r : R4) : IsRep l r → adB rs r = true → Stp rs l (adL rs r) sOk
  | full (r : R4) : IsRep l r → adB rs r = false → Stp rs l rs sFull
  | what : isAsk (wd (cutL 32 l) 0) = false → l ≠ sChanges → (∀ r, ¬ IsRep l r) → Stp rs l rs sWhat
/-- A report begins with neither of the three names. -/
theorem rep_first {l : List UInt8} {r : R4} (h : IsRep l r) : isAsk (wd (cutL 32 l) 0) = false ∧ l ≠ sChanges := by
  obtain ⟨a, b, e, c, rfl, h1, _⟩ := (rep_words l _ _ _ _).1 h.1
  have hn : (32 : UInt8) ∉ 115 :: a := fun hm => by
    rcases List.mem_cons.1 hm with hm | hm
    · cases hm
    · exact numOk_no h1 hm
  constructor
  · rw [cutL_first _ hn]
    have e1 : ¬ (115 :: a = sSeries) := fun e => by
      have e2 := (List.cons.inj e).2
      rw [e2] at h1; revert h1; decide
    have e2 : ¬ (115 :: a = sFill) := fun e => by cases (List.cons.inj e).1
    have e3 : ¬ (115 :: a = sMean) := fun e => by cases (List.cons.inj e).1
    show isAsk (115 :: a) = false
    simp [isAsk, e1, e2, e3]
  · intro e
    cases (List.cons.inj e).1
theorem ask_changes {l : List UInt8} (h : l = sChanges) : isAsk (wd (cutL 32 l) 0) = false := by rw [h]; decide
/-- There is one answer. -/
theorem Stp.one {rs rs1 rs2 : List R4} {l t1 t2 : List UInt8} (h : Stp rs l rs1 t1) (h' : Stp rs l rs2 t2) : rs1 = rs2 ∧ t1 = t2 := by
  cases h with
  | ask ha =>
    cases h' with
    | ask _ => exact ⟨rfl, rfl⟩
    | changes hc => rw [ask_changes hc] at ha; cases ha
    | add r hr _ => rw [(rep_first hr).1] at ha; cases ha
    | full r hr _ => rw [(rep_first hr).1] at ha; cases ha
    | what hn _ _ => rw [hn] at ha; cases ha
  | changes hc =>
    cases h' with
    | ask ha => rw [ask_changes hc] at ha; cases ha
    | changes _ => exact ⟨rfl, rfl⟩
    | add r hr _ => exact absurd hc (rep_first hr).2
    | full r hr _ => exact absurd hc (rep_first hr).2
    | what _ hn _ => exact absurd hc hn
  | add r hr hb =>
    cases h' with
    | ask ha => rw [(rep_first hr).1] at ha; cases ha
    | changes hc => exact absurd hc (rep_first hr).2
    | add q hq _ => rw [hr.one hq]; exact ⟨rfl, rfl⟩
    | full q hq hb2 => rw [hr.one hq, hb2] at hb; cases hb
    | what _ _ hn => exact absurd hr (hn r)
  | full r hr hb =>
    cases h' with
    | ask ha => rw [(rep_first hr).1] at ha; cases ha
    | changes hc => exact absurd hc (rep_first hr).2
    | add q hq hb2 => rw [hr.one hq, hb2] at hb; cases hb
    | full q hq _ => exact ⟨rfl, rfl⟩
    | what _ _ hn => exact absurd hr (hn r)
  | what h1 h2 h3 =>
    cases h' with
    | ask ha => rw [h1] at ha; cases ha
    | changes hc => exact absurd hc h2
    | add q hq _ => exact absurd hq (h3 q)
    | full q hq _ => exact absurd hq (h3 q)
    | what _ _ _ => exact ⟨rfl, rfl⟩
/-- What the first n lines do. -/
inductive Run (ls : List (List UInt8)) : Nat → List R4 → List UInt8 → Prop
  | none : Run ls 0 [] []
  | more {n : Nat} {rs rs2 : List R4} {out t : List UInt8} : Run ls n rs out → Stp rs (ls.getD n []) rs2 t → Run ls (n + 1) rs2 (out ++ (t ++ [10]))
theorem Run.one {ls : List (List UInt8)} {n : Nat} {rs : List R4} {out : List UInt8} (h : Run ls n rs out) : ∀ {rs2 : List R4} {out2 : List UInt8}, Run ls n rs2 out2 → rs = rs2 ∧ out = out2 := by
  induction h with
  | none => intro rs2 out2 h'; cases h'; exact ⟨rfl, rfl⟩
  | more hr hs ih =>
    intro rs2 out2 h'
    cases h' with
    | more hr' hs' =>
      obtain ⟨rfl, rfl⟩ := ih hr'
      obtain ⟨rfl, rfl⟩ := hs.one hs'
      exact ⟨rfl, rfl⟩
/-- The output of a script. -/
inductive Exec (t : List UInt8) : List UInt8 → Prop
  | long : 600 < t.length → Exec t sLong
  | run {rs : List R4} {out : List UInt8} : ¬ 600 < t.length → Run (cutL 10 t) ((cutL 10 t).length - 1) rs out → Exec t (out ++ sReports ++ Lib.itoa (rs.length : Int) ++ [10])
theorem Exec.one {t o1 o2 : List UInt8} (h : Exec t o1) (h' : Exec t o2) : o1 = o2 := by
  cases h with
  | long h1 =>
    cases h' with
    | long _ => rfl
    | run h2 _ => exact absurd h1 h2
  | run h1 hr =>
    cases h' with
    | long h2 => exact absurd h2 h1
    | run _ hr' => obtain ⟨rfl, rfl⟩ := hr.one hr'; rfl
/-- There is an answer. -/
theorem stp_ex (rs : List R4) (l : List UInt8) : ∃ rs2 t, Stp rs l rs2 t := by
  by_cases h1 : isAsk (wd (cutL 32 l) 0) = true
  · exact ⟨_, _, .ask h1⟩
  · by_cases h2 : l = sChanges
    · exact ⟨_, _, .changes h2⟩
    · by_cases h3 : ∃ r, IsRep l r
      · obtain ⟨r, hr⟩ := h3
        cases hb : adB rs r
        · exact ⟨_, _, .full r hr hb⟩
        · exact ⟨_, _, .add r hr hb⟩
      · exact ⟨_, _, .what (by simpa using h1) h2 (fun r hr => h3 ⟨r, hr⟩)⟩
end Go.Proofs.YtnemdnidlbekbaaGreatDoor
namespace Go.Proofs.YtnemdnidlbekbaaGreatDoor
open Go.RowKit
set_option linter.unusedVariables false

/-- Block g holds texts. -/
def Ss (w : World) (g : Nat) (bs : List ByteArray) : Prop := ∀ i, i < bs.length → w.cell? ⟨g, i, none⟩ = some (.string (bs.getD i ⟨#[]⟩))
theorem Ss.keep {w w' : World} {g : Nat} {bs : List ByteArray} (h : Ss w g bs) (k : Keep w w') : Ss w' g bs := fun i hi => k.cell (h i hi)
def ws (bs : List ByteArray) : List (List UInt8) := bs.map fun b => b.data.toList
theorem wd_ws (bs : List ByteArray) (i : Nat) : wd (ws bs) i = (bs.getD i ⟨#[]⟩).data.toList := by
  unfold wd ws
  by_cases h : i < bs.length
  · simp [List.getD_eq_getElem?_getD, h]
  · simp [List.getD_eq_getElem?_getD, Nat.le_of_not_lt h]
set_option maxHeartbeats 1000000 in
theorem word_any (g c : Nat) (bs : List ByteArray) (i : Nat) (w : World) (h : Ss w g bs) (hm : bs.length ≤ 1048576) :
    Calls Tryz.prog 54 #[.slice (some ⟨g, 0, none⟩) bs.length c, .int .i64 (i : Int)] w fun e w' => e = .returned (.string (bs.getD i ⟨#[]⟩)) ∧ w = w' := by
  by_cases hi : i < bs.length
  · have h1 := h i hi
    generalize bs.getD i ⟨#[]⟩ = b at h1 ⊢
    have q1 : (0 : Int) ≤ (i : Int) := by omega
    have q2 : (i : Int) < (bs.length : Int) := by omega
    have q3 : ¬ (bs.length : Int) ≤ (i : Int) := by omega
    go_enter Tryz.func54, Tryz.ntmps54
    go_wp2
    go_ret
    exact ⟨rfl, rfl⟩
  · have e : bs.getD i ⟨#[]⟩ = ⟨#[]⟩ := by simp [List.getD_eq_getElem?_getD, Nat.le_of_not_lt hi]
    rw [e]
    have q3 : (bs.length : Int) ≤ (i : Int) := by omega
    go_enter Tryz.func54, Tryz.ntmps54
    go_wp2
    go_ret
    exact ⟨rfl, rfl⟩
def DoneZ (w : World) (b : Nat) (s : ByteArray) (R : List UInt8) (e : Ending) (w' : World) : Prop :=
  Only b w w' ∧ CurR w' b s R ∧ e = .returned (.bool R.isEmpty)
theorem done_Z (b : Nat) (s : ByteArray) (R : List UInt8) (w : World) (h : CurR w b s R) :
    Calls Tryz.prog 71 #[.pointer (some ⟨b, 0, none⟩)] w (DoneZ w b s R) := by
  obtain ⟨p, hc, hR⟩ := h
  have hp : p ≤ s.size := hc.2.2.2.2.1
  by_cases he : p = s.size
  · subst he
    have hR' : R = [] := by rw [← hR]; exact drop_none (Nat.le_refl _)
    refine (done_yes b s w hc).mono fun e w' h => ?_
    obtain ⟨he, n, hw⟩ := h
    subst hw
    exact ⟨(Only.refl b w).drewN n, ⟨_, hc.drewN n, hR⟩, by rw [he, hR']; rfl⟩
  · have hlt : p < s.size := by omega
    have hd := drop_some hlt
    refine (done_no b p s w hc hlt).mono fun e w' h => ?_
    obtain ⟨he, n, hw⟩ := h
    subst hw
    exact ⟨(Only.refl b w).drewN n, ⟨_, hc.drewN n, hR⟩, by rw [he, ← hR, hd]; rfl⟩
/-- A value's word at the beginning of a text: the value, and what is left. -/
def vAt (R : List UInt8) : Option (Int × List UInt8) :=
  match R with
  | 47 :: t => some (-9999, t)
  | _ => if numOk (nrun R) && decide (numV (nrun R) ≠ -9999) then some (numV (nrun R), R.drop (nrun R).length) else none
theorem digs_run {R : List UInt8} (h : digOk (R.takeWhile isDig) = true) (hd : R.drop (R.takeWhile isDig).length = []) : digs R = dval (R.takeWhile isDig) 0 := by
  have e : R.takeWhile isDig = R := by
    have := takeWhile_prefix R
    rw [hd, List.append_nil] at this
    exact this
  rw [e] at h ⊢
  simp [digs, h]
theorem digs_off {R : List UInt8} (h : digOk (R.takeWhile isDig) = false ∨ R.drop (R.takeWhile isDig).length ≠ []) : digs R = -1 := by
  unfold digs
  rw [if_neg]
  intro hk
  have e := takeWhile_self R (digOk_facts hk).2.2.1
  rw [e] at h
  rcases h with h | h
  · rw [hk] at h; cases h
  · exact h (by simp)
set_option maxRecDepth 100000 in
set_option maxHeartbeats 2000000 in
theorem number_any (g c : Nat) (bs : List ByteArray) (i : Nat) (w : World) (h : Ss w g bs) (hm : bs.length ≤ 1048576) (hs : (bs.getD i ⟨#[]⟩).size ≤ 1048576) :
    Calls Tryz.prog 101 #[.slice (some ⟨g, 0, none⟩) bs.length c, .int .i64 (i : Int)] w fun e w' => e = .returned (.int .i64 (wn (ws bs) i)) ∧ Keep w w' := by
  have HE : Hid (wn (ws bs) i = digs (bs.getD i ⟨#[]⟩).data.toList) := Lib.hid (by unfold wn; rw [wd_ws])
  have HWd := Lib.hid (word_any g c bs i w h hm)
  rw [HE.out]
  clear HE h
  generalize bs.getD i ⟨#[]⟩ = s at *
  have hK0 : Keep w (w.alloc (.cells #[.string s, .int .i64 0] 100)) := (Keep.refl w).alloc _
  have hC : CurR (w.alloc (.cells #[.string s, .int .i64 0] 100)) w.heap.size s s.data.toList :=
    ⟨0, ⟨World.cell?_alloc_new w _ _ 0, World.cell?_alloc_new w _ _ 1, World.frozen?_alloc_at _ _ _ _ rfl, by simp, Nat.zero_le _, hs⟩, by simp⟩
  go_enter Tryz.func101, Tryz.ntmps101
  go_wp2_with fail
  refine HWd.out.mono ?_
  rintro e w1 ⟨rfl, rfl⟩
  go_wp2_with fail
  refine (digits_R _ s _ _ hC).mono ?_
  rintro e w2 ⟨ho2, ⟨hd, hC2, rfl⟩ | ⟨hd, _, rfl⟩⟩
  · have K2 : Keep w w2 := Keep.trans' hK0 ho2 (Nat.le_refl _)
    by_cases hr : s.data.toList.drop (s.data.toList.takeWhile isDig).length = []
    · have HV : Hid (digs s.data.toList = dval (s.data.toList.takeWhile isDig) 0) := Lib.hid (digs_run hd hr)
      rw [hr] at hC2
      generalize dval (s.data.toList.takeWhile isDig) 0 = v at HV ⊢
      clear hr hd
      go_wp2_with fail
      refine (done_Z _ s _ _ hC2).mono ?_
      rintro e w3 ⟨ho3, _, rfl⟩
      have K3 := Keep.trans' K2 ho3 (Nat.le_refl _)
      go_wp2
      go_ret
      exact ⟨by rw [HV.out]; rfl, K3⟩
    · have HV : Hid (digs s.data.toList = -1) := Lib.hid (digs_off (.inr hr))
      have HB : Hid ((s.data.toList.drop (s.data.toList.takeWhile isDig).length).isEmpty = false) := Lib.hid (by
        cases h9 : s.data.toList.drop (s.data.toList.takeWhile isDig).length with
        | nil => exact absurd h9 hr
        | cons a l => rfl)
      generalize s.data.toList.drop (s.data.toList.takeWhile isDig).length = R at hC2 HB
      generalize dval (s.data.toList.takeWhile isDig) 0 = v
      clear hr hd
      have HD := Lib.hid (fun W (h : CurR W w.heap.size s R) => done_Z _ s _ W h)
      go_wp2_with fail
      refine (HD.out _ hC2).mono ?_
      rintro e w3 ⟨ho3, _, rfl⟩
      have K3 := Keep.trans' K2 ho3 (Nat.le_refl _)
      rw [HB.out]
      go_wp2
      go_ret
      exact ⟨by rw [HV.out]; rfl, K3⟩
  · have HV : Hid (digs s.data.toList = -1) := Lib.hid (digs_off (.inl hd))
    have K2 : Keep w w2 := Keep.trans' hK0 ho2 (Nat.le_refl _)
    clear hd
    go_wp2
    go_ret
    exact ⟨by rw [HV.out]; rfl, K2⟩
end Go.Proofs.YtnemdnidlbekbaaGreatDoor
namespace Go.Proofs.YtnemdnidlbekbaaGreatDoor
open Go.RowKit
set_option linter.unusedVariables false

/-- A method of the session at sp. -/
def fV (n sp : Nat) : Value := .func (.func n) #[.pointer (some ⟨sp, 0, none⟩)] #[]
def fD (n : Int) : DataW Unit := .lit (.int .i64 n)
open Classical in
/-- How the map's elements read. -/
noncomputable def fE (sp : Nat) (v : Value) : Option (DataW Unit × List MemPlace) :=
  if v = .nilFunc then some (fD 0, []) else if v = fV 76 sp then some (fD 1, []) else if v = fV 77 sp then some (fD 2, []) else if v = fV 78 sp then some (fD 3, []) else none
theorem fD_inj {a b : Int} (h : fD a = fD b) : a = b := by injection h with h; injection h
theorem fV_nil (n sp : Nat) : fV n sp ≠ .nilFunc := by intro h; cases h
theorem fV_inj {a b sp : Nat} (h : fV a sp = fV b sp) : a = b := by injection h with h; injection h
theorem fE_inv {sp : Nat} {v : Value} {d : DataW Unit} {ps : List MemPlace} (h : fE sp v = some (d, ps)) :
    (d = fD 0 ∧ v = .nilFunc) ∨ (d = fD 1 ∧ v = fV 76 sp) ∨ (d = fD 2 ∧ v = fV 77 sp) ∨ (d = fD 3 ∧ v = fV 78 sp) := by
  unfold fE at h
  split at h
  · injection h with h; injection h with h _; exact .inl ⟨h.symm, ‹_›⟩
  split at h
  · injection h with h; injection h with h _; exact .inr (.inl ⟨h.symm, ‹_›⟩)
  split at h
  · injection h with h; injection h with h _; exact .inr (.inr (.inl ⟨h.symm, ‹_›⟩))
  split at h
  · injection h with h; injection h with h _; exact .inr (.inr (.inr ⟨h.symm, ‹_›⟩))
  · cases h
theorem fE_nil (sp : Nat) : fE sp .nilFunc = some (fD 0, []) := by unfold fE; rw [if_pos rfl]
theorem fE_series (sp : Nat) : fE sp (fV 76 sp) = some (fD 1, []) := by unfold fE; rw [if_neg (fV_nil _ _), if_pos rfl]
theorem fE_fill (sp : Nat) : fE sp (fV 77 sp) = some (fD 2, []) := by
  unfold fE; rw [if_neg (fV_nil _ _), if_neg (fun h => absurd (fV_inj h) (by decide)), if_pos rfl]
theorem fE_mean (sp : Nat) : fE sp (fV 78 sp) = some (fD 3, []) := by
  unfold fE; rw [if_neg (fV_nil _ _), if_neg (fun h => absurd (fV_inj h) (by decide)), if_neg (fun h => absurd (fV_inj h) (by decide)), if_pos rfl]
/-- The method that a name calls. -/
def cmV (sp : Nat) (l : List UInt8) : Value := if l = sMean then fV 78 sp else if l = sFill then fV 77 sp else if l = sSeries then fV 76 sp else .nilFunc
def D1 : DataW Unit := (DataW.map []).put (.string sSeries) (fD 1)
def D2 : DataW Unit := D1.put (.string sFill) (fD 2)
def D3 : DataW Unit := D2.put (.string sMean) (fD 3)
theorem isKl (l : List UInt8) : WideAt.IsKeyLit (.string l) := by unfold WideAt.IsKeyLit; trivial
theorem isD1 : Go.Maps.IsMap D1 := Go.Maps.isMap_empty.put _ _
theorem isD2 : Go.Maps.IsMap D2 := isD1.put _ _
theorem D3_mean (z : DataW Unit) : D3.atKey (.string sMean) z = fD 3 ∧ Go.Maps.has D3 (.string sMean) = true := ⟨Go.Maps.atKey_put_same isD2 (isKl _) _ _, Go.Maps.has_put_same isD2 (isKl _) _⟩
theorem D3_fill (z : DataW Unit) : D3.atKey (.string sFill) z = fD 2 ∧ Go.Maps.has D3 (.string sFill) = true := by
  have h : (Lit.string sFill) ≠ .string sMean := by intro h; injection h with h; revert h; decide
  exact ⟨(Go.Maps.atKey_put_other h _ _).trans (Go.Maps.atKey_put_same isD1 (isKl _) _ _), (Go.Maps.has_put_other h _).trans (Go.Maps.has_put_same isD1 (isKl _) _)⟩
theorem D3_series (z : DataW Unit) : D3.atKey (.string sSeries) z = fD 1 ∧ Go.Maps.has D3 (.string sSeries) = true := by
  have h : (Lit.string sSeries) ≠ .string sMean := by intro h; injection h with h; revert h; decide
  have h2 : (Lit.string sSeries) ≠ .string sFill := by intro h; injection h with h; revert h; decide
  exact ⟨(Go.Maps.atKey_put_other h _ _).trans ((Go.Maps.atKey_put_other h2 _ _).trans (Go.Maps.atKey_put_same Go.Maps.isMap_empty (isKl _) _ _)), (Go.Maps.has_put_other h _).trans ((Go.Maps.has_put_other h2 _).trans (Go.Maps.has_put_same Go.Maps.isMap_empty (isKl _) _))⟩
theorem D3_none {l : List UInt8} (h1 : l ≠ sSeries) (h2 : l ≠ sFill) (h3 : l ≠ sMean) (z : DataW Unit) : D3.atKey (.string l) z = z ∧ Go.Maps.has D3 (.string l) = false := by
  have e1 : (Lit.string l) ≠ .string sSeries := by intro h; injection h with h; exact h1 h
  have e2 : (Lit.string l) ≠ .string sFill := by intro h; injection h with h; exact h2 h
  have e3 : (Lit.string l) ≠ .string sMean := by intro h; injection h with h; exact h3 h
  exact ⟨(Go.Maps.atKey_put_other e3 _ _).trans ((Go.Maps.atKey_put_other e2 _ _).trans ((Go.Maps.atKey_put_other e1 _ _).trans rfl)), (Go.Maps.has_put_other e3 _).trans ((Go.Maps.has_put_other e2 _).trans ((Go.Maps.has_put_other e1 _).trans rfl))⟩
theorem lawStr : Go.Maps.Keyed Tryz.prog 9 := Go.Maps.string_keyed Tryz.underlying9
theorem zeroCm (w : World) : (zeroValue 79).run Tryz.prog w = .ok .nilFunc w := by kernel_rfl
/-- A command looked up. -/
theorem look_cm {w : World} {sp B n : Nat} (h : w.ownsMap Tryz.prog 9 (fE sp) B n D3) (s : ByteArray) (hs : s.size ≤ maxLen) :
    (Instr.lookup 81 (.map (some B)) (.string s) true).run Tryz.prog w = .ok (.tuple #[cmV sp s.data.toList, .bool (isAsk s.data.toList)]) w := by
  obtain ⟨v, ps, hrun, hv⟩ := h.look_ok lawStr Tryz.underlying81 (zeroCm w) (fE_nil sp) (Go.WideMaps.keyOf_string_mk Tryz.underlying9 hs)
  rw [hrun]
  have n12 : sFill ≠ sMean := by decide
  have n13 : sSeries ≠ sMean := by decide
  have n23 : sSeries ≠ sFill := by decide
  have nn : ∀ a b : Int, a ≠ b → fD a ≠ fD b := fun a b h e => h (fD_inj e)
  generalize s.data.toList = l at hv ⊢
  by_cases h3 : l = sMean
  · subst h3
    rw [(D3_mean _).1] at hv
    rw [(D3_mean (fD 0)).2]
    have e2 : cmV sp sMean = fV 78 sp := by unfold cmV; rw [if_pos rfl]
    rw [e2]
    rcases fE_inv hv with ⟨h, _⟩ | ⟨h, _⟩ | ⟨h, _⟩ | ⟨_, rfl⟩
    · exact absurd h (nn _ _ (by decide))
    · exact absurd h (nn _ _ (by decide))
    · exact absurd h (nn _ _ (by decide))
    · rfl
  by_cases h2 : l = sFill
  · subst h2
    rw [(D3_fill _).1] at hv
    rw [(D3_fill (fD 0)).2]
    have e2 : cmV sp sFill = fV 77 sp := by unfold cmV; rw [if_neg n12, if_pos rfl]
    rw [e2]
    rcases fE_inv hv with ⟨h, _⟩ | ⟨h, _⟩ | ⟨_, rfl⟩ | ⟨h, _⟩
    · exact absurd h (nn _ _ (by decide))
    · exact absurd h (nn _ _ (by decide))
    · rfl
    · exact absurd h (nn _ _ (by decide))
  by_cases h1 : l = sSeries
  · subst h1
    rw [(D3_series _).1] at hv
    rw [(D3_series (fD 0)).2]
    have e2 : cmV sp sSeries = fV 76 sp := by unfold cmV; rw [if_neg n13, if_neg n23, if_pos rfl]
    rw [e2]
    rcases fE_inv hv with ⟨h, _⟩ | ⟨_, rfl⟩ | ⟨h, _⟩ | ⟨h, _⟩
    · exact absurd h (nn _ _ (by decide))
    · rfl
    · exact absurd h (nn _ _ (by decide))
    · exact absurd h (nn _ _ (by decide))
  · rw [(D3_none h1 h2 h3 _).1] at hv
    rw [(D3_none h1 h2 h3 (fD 0)).2]
    have e2 : cmV sp l = .nilFunc := by unfold cmV; rw [if_neg h3, if_neg h2, if_neg h1]
    have e3 : isAsk l = false := by unfold isAsk; rw [decide_eq_false h1, decide_eq_false h2, decide_eq_false h3]; rfl
    rw [e2, e3]
    rcases fE_inv hv with ⟨_, rfl⟩ | ⟨h, _⟩ | ⟨h, _⟩ | ⟨h, _⟩
    · rfl
    · exact absurd h (nn _ _ (by decide))
    · exact absurd h (nn _ _ (by decide))
    · exact absurd h (nn _ _ (by decide))
theorem ownsMap_keepZ {w w' : World} {sp b n : Nat} {D : DataW Unit} (h : w.ownsMap Tryz.prog 9 (fE sp) b n D) (kk : Keep w w') : w'.ownsMap Tryz.prog 9 (fE sp) b n D :=
  h.kept (row := none) (⟨Below.os kk, Below.tape kk, Below.output kk, Below.size kk, fun i hi _ => Below.block kk i hi⟩ : w.grownBy w' none) (by simp)
/-- An entry of a map's literal. -/
theorem ins_own {H : Type} {P : Program} (w : World) {ops : Array Oper} {rest : List Oper} {o : Oper} {a : Act} {Q : Exit → Act → World → Prop} (t : TypeId) (m x v : Operand) (hop : o.op = Op.insert t m x v) (hg : o.guard = none)
    (k e : TypeId) (K : Go.Maps.Keyed P k) (ht : P.underlying t = some (.map k e)) (R : Value → Option (DataW H × List MemPlace)) (b n : Nat) (D : DataW H)
    (hm : a.eval m = .map (some b)) (hown : w.ownsMap P k R b n D) (hn : n < maxLen) (kv u : Value) (kl : Lit) (hx : a.eval x = kv) (hv : a.eval v = u) (hk : keyOf P k kv = some kl)
    (d : DataW H) (ps : List MemPlace) (hd : R u = some (d, ps))
    (hK : ∀ w', w'.ownsMap P k R b (n + 1) (D.put kl d) → w.grownBy w' (some b) → wpList P ops Q rest (a.put o.dst undef) w') :
    wpList P ops Q (o :: rest) a w := by
  refine wpList_plain hg fun L hL => ?_
  obtain ⟨w', e1, e2, e3⟩ := hown.update K ht hn hk hd
  unfold Oper.wp
  simp [execOp, hop, hm, hx, hv, e1, Result.andThen]
  exact hL _ _ (hK w' e2 e3)
set_option maxRecDepth 100000 in
set_option maxHeartbeats 2000000 in
theorem cmds_any (sp : Nat) (w : World) :
    Calls Tryz.prog 53 #[.pointer (some ⟨sp, 0, none⟩)] w fun e w' => ∃ B, e = .returned (.map (some B)) ∧ w'.ownsMap Tryz.prog 9 (fE sp) B 3 D3 ∧ Keep w w' := by
  have hmm := @run_makeMap Tryz.prog
  have hmf : ∀ (fn : Fn) (first cap : Array Value) (w : World), (Instr.makeFunc fn first cap).run Tryz.prog w = .ok (.func fn first cap) w := fun _ _ _ _ => rfl
  have h0 := World.ownsMap_made w Tryz.prog 9 (fE sp)
  have hz : ∀ {w1 w2 : World} {B : Nat}, w1.grownBy w2 (some B) → w.heap.size ≤ B → Keep w w1 → Keep w w2 := fun hg hB hk => Keep.trans' hk (hg : Only _ _ _) hB
  go_enter Tryz.func53, Tryz.ntmps53
  go_wp2_with (first
    | (refine ins_own _ 81 _ _ _ rfl rfl 9 79 lawStr Tryz.underlying81 (fE sp) w.heap.size 0 _ rfl h0 (by unfold maxLen; omega) _ _ (.string sSeries) rfl rfl (Go.WideMaps.keyOf_string_mk Tryz.underlying9 (by decide)) (fD 1) [] (fE_series sp) ?_; intro w1 hown1 hgrow1)
    | (refine ins_own _ 81 _ _ _ rfl rfl 9 79 lawStr Tryz.underlying81 (fE sp) w.heap.size 1 _ rfl hown1 (by unfold maxLen; omega) _ _ (.string sFill) rfl rfl (Go.WideMaps.keyOf_string_mk Tryz.underlying9 (by decide)) (fD 2) [] (fE_fill sp) ?_; intro w2 hown2 hgrow2)
    | (refine ins_own _ 81 _ _ _ rfl rfl 9 79 lawStr Tryz.underlying81 (fE sp) w.heap.size 2 _ rfl hown2 (by unfold maxLen; omega) _ _ (.string sMean) rfl rfl (Go.WideMaps.keyOf_string_mk Tryz.underlying9 (by decide)) (fD 3) [] (fE_mean sp) ?_; intro w3 hown3 hgrow3))
  go_ret
  exact ⟨_, rfl, hown3, hz hgrow3 (Nat.le_refl _) (hz hgrow2 (Nat.le_refl _) (hz hgrow1 (Nat.le_refl _) ((Keep.refl w).alloc _)))⟩
end Go.Proofs.YtnemdnidlbekbaaGreatDoor
namespace Go.Proofs.YtnemdnidlbekbaaGreatDoor
open Go.RowKit
set_option linter.unusedVariables false

/-- The session at sp has the store rs. -/
def Ses (w : World) (sp : Nat) (rs : List R4) : Prop := ∃ (a : Option Addr) (cap : Nat), w.cell? ⟨sp, 0, none⟩ = some (.slice a rs.length cap) ∧ w.frozen? ⟨sp, 0, none⟩ = false ∧ Rs w a rs ∧ rs.length ≤ cap ∧
  ((a = none ∧ rs = [] ∧ cap = 0) ∨ ∃ b off, a = some ⟨b, off, none⟩ ∧ b ≠ sp)
theorem Ses.keep {w w' : World} {sp : Nat} {rs : List R4} (h : Ses w sp rs) (k : Keep w w') : Ses w' sp rs := by
  obtain ⟨a, cap, c0, f0, hR, hc, hf⟩ := h
  exact ⟨a, cap, k.cell c0, k.still c0 f0, hR.keep k, hc, hf⟩
theorem onlyOfZ {B : Nat} {w w' : World} (k : Keep w w') : Only B w w' := ⟨Below.os k, Below.tape k, Below.output k, Below.size k, fun i hi _ => Below.block k i hi⟩
theorem frR_monoZ {w0 w w' : World} {a : Option Addr} {ys : List R4} (h : FrR w w' a ys) (hs : w0.heap.size ≤ w.heap.size) : FrR w0 w' a ys := by
  rcases h with h | ⟨g, ha, hg, hl, h⟩
  · exact .inl h
  · exact .inr ⟨g, ha, Nat.le_trans hs hg, hl, h⟩
set_option maxRecDepth 100000 in
set_option maxHeartbeats 4000000 in
theorem add_any (sp : Nat) (rs : List R4) (s d k v : Int) (w : World) (hs : Ses w sp rs) (hl : rs.length ≤ 40) :
    Calls Tryz.prog 50 #[.pointer (some ⟨sp, 0, none⟩), .agg #[.int .i64 s, .int .i64 d, .int .i64 k, .int .i64 v]] w fun e w' => (∃ t : ByteArray, e = .returned (.string t) ∧ t.data.toList = if adB rs (s, d, k, v) then sOk else sFull) ∧ Ses w' sp (if adB rs (s, d, k, v) then adL rs (s, d, k, v) else rs) ∧ Only sp w w' := by
  have HSes := Lib.hid hs
  obtain ⟨a, cap, c0, f0, hR, hc, hf⟩ := hs
  have HAd : Hid (∀ W, Keep w W → Calls Tryz.prog 73 #[.slice a rs.length cap, .agg #[.int .i64 s, .int .i64 d, .int .i64 k, .int .i64 v]] W fun e w' => ∃ (a' : Option Addr) (c' : Nat), e = .returned (.tuple #[.slice a' (adL rs (s, d, k, v)).length c', .bool (adB rs (s, d, k, v))]) ∧ (adL rs (s, d, k, v)).length ≤ c' ∧ FrR w w' a' (adL rs (s, d, k, v)) ∧ Keep W w') := Lib.hid (fun W kW => by
    rcases hf with ⟨rfl, rfl, rfl⟩ | ⟨b, off, rfl, _⟩
    · exact (sad0_impl s d k v W).mono fun e w' ⟨a', c', he, hc', hF, hk⟩ => ⟨a', c', he, hc', frR_monoZ hF kW.size, hk⟩
    · exact (sad_impl b off cap rs s d k v W (hR.keep kW) (by omega) hc).mono fun e w' ⟨a', c', he, hc', hF, hk⟩ => ⟨a', c', he, hc', frR_monoZ hF kW.size, hk⟩)
  have hsp : sp < w.heap.size := World.block_lt_of_cell? w _ c0
  have HYes : Hid (adB rs (s, d, k, v) = true → 0 < (adL rs (s, d, k, v)).length) := Lib.hid (fun h => by
    simp only [adB, Bool.and_eq_true, decide_eq_true_eq] at h
    have h1 : (stB rs && rB (s, d, k, v)) = true := by simp [h.1.1, h.1.2]
    simp [adL, h1, h.2])
  generalize adL rs (s, d, k, v) = L at *
  generalize adB rs (s, d, k, v) = ok at *
  generalize hn : rs.length = n at *
  have k4 : Keep w (w.alloc (.cells #[.int .i64 s, .int .i64 d, .int .i64 k, .int .i64 v] 54)) := (Keep.refl w).alloc _
  have y0 : (w.alloc (.cells #[.int .i64 s, .int .i64 d, .int .i64 k, .int .i64 v] 54)).cell? ⟨w.heap.size, 0, none⟩ = some (.int .i64 s) := World.cell?_alloc_new w _ _ 0
  have y1 : (w.alloc (.cells #[.int .i64 s, .int .i64 d, .int .i64 k, .int .i64 v] 54)).cell? ⟨w.heap.size, 1, none⟩ = some (.int .i64 d) := World.cell?_alloc_new w _ _ 1
  have y2 : (w.alloc (.cells #[.int .i64 s, .int .i64 d, .int .i64 k, .int .i64 v] 54)).cell? ⟨w.heap.size, 2, none⟩ = some (.int .i64 k) := World.cell?_alloc_new w _ _ 2
  have y3 : (w.alloc (.cells #[.int .i64 s, .int .i64 d, .int .i64 k, .int .i64 v] 54)).cell? ⟨w.heap.size, 3, none⟩ = some (.int .i64 v) := World.cell?_alloc_new w _ _ 3
  have y4 := k4.cell c0
  have y5 := k4.still c0 f0
  have HY2 := Lib.hid (fun h : ok = true => HYes.out h)
  clear HYes
  cases ok
  all_goals
    go_enter Tryz.func50, Tryz.ntmps50
    go_wp2_with fail
    generalize hbk : w.heap.size = bk at *
    generalize w.alloc (.cells #[.int .i64 s, .int .i64 d, .int .i64 k, .int .i64 v] 54) = w4 at *
    go_region_held3 (fun w' => Keep w4 w' ∧ w'.cell? ⟨bk, 0, none⟩ = some (.int .i64 s) ∧ w'.cell? ⟨bk, 1, none⟩ = some (.int .i64 d) ∧ w'.cell? ⟨bk, 2, none⟩ = some (.int .i64 k) ∧ w'.cell? ⟨bk, 3, none⟩ = some (.int .i64 v) ∧ w'.cell? ⟨sp, 0, none⟩ = some (.slice a n cap))
      ((go_split_ands; refine (fun hK => ⟨hK, hK.cell y0, hK.cell y1, hK.cell y2, hK.cell y3, hK.cell y4⟩ : Keep w4 _ → _) ?_; (repeat' (first | with_reducible assumption | with_reducible exact Keep.refl _ | with_reducible refine Keep.drew ?_ | with_reducible refine Keep.drewN ?_ _ | with_reducible refine Keep.trans ?_ hk))))
      ((go_at_call 73; go_split_ands; (with_reducible refine (HAd.out _ (k4.trans (by (repeat' (first | with_reducible assumption | with_reducible exact Keep.refl _ | with_reducible refine Keep.drew ?_ | with_reducible refine Keep.drewN ?_ _ | with_reducible refine Keep.trans ?_ hk))))).mono ?_); rintro e w' ⟨a', c', rfl, hc', hF, hk⟩; go_split_ands; have hK : Keep w4 w' := Keep.trans (by (repeat' (first | with_reducible assumption | with_reducible exact Keep.refl _ | with_reducible refine Keep.drew ?_ | with_reducible refine Keep.drewN ?_ _ | with_reducible refine Keep.trans ?_ hk))) hk))
  · go_wp2
    go_ret
    have hk9 : Keep w _ := k4.trans hK
    exact ⟨⟨_, rfl, rfl⟩, HSes.out.keep hk9, onlyOfZ hk9⟩
  · have f9 := hK.still y4 y5
    have c9 := hK.cell y4
    have hk9 : Keep w _ := k4.trans hK
    have HF := Lib.hid hF
    have h0 : 0 < L.length := HY2.out (by first | trivial | rfl)
    clear hF
    go_wp2
    go_ret
    refine ⟨⟨_, rfl, rfl⟩, ?_, (onlyOfZ hk9).put1 _ _⟩
    rcases HF.out with hn | ⟨g, rfl, hg, hgl, hW⟩
    · rw [hn] at h0; simp at h0
    · refine ⟨some ⟨g, 0, none⟩, c', World.cell?_setCell_same _ _ _ c9, (World.frozen?_setCell _ _ _ _).trans f9, ?_, hc', .inr ⟨g, 0, rfl, by omega⟩⟩
      exact ((Only.refl sp _).put1 0 _).rs hW.rs (fun b o hb => by injection hb with hb; injection hb with hb _ _; omega)
end Go.Proofs.YtnemdnidlbekbaaGreatDoor
namespace Go.Proofs.YtnemdnidlbekbaaGreatDoor
open Go.RowKit
set_option linter.unusedVariables false

/-- The session at sp has the store rs. -/
def SesT (w : World) (sp : Nat) (rs : List R4) : Prop := (∃ cs fz, w.heap[sp]? = some (.cells cs 34 fz)) ∧ ∃ (a : Option Addr) (cap : Nat), w.cell? ⟨sp, 0, none⟩ = some (.slice a rs.length cap) ∧ w.frozen? ⟨sp, 0, none⟩ = false ∧ Rs w a rs ∧ rs.length ≤ cap ∧
  ((a = none ∧ rs = [] ∧ cap = 0) ∨ ∃ b off, a = some ⟨b, off, none⟩ ∧ b ≠ sp ∧ TyR w b)
theorem SesT.ses {w : World} {sp : Nat} {rs : List R4} (h : SesT w sp rs) : Ses w sp rs := by
  obtain ⟨_, a, cap, c0, f0, hR, hc, hf⟩ := h
  refine ⟨a, cap, c0, f0, hR, hc, hf.imp id fun ⟨b, off, h1, h2, _⟩ => ⟨b, off, h1, h2⟩⟩
theorem SesT.keep {w w' : World} {sp : Nat} {rs : List R4} (h : SesT w sp rs) (k : Keep w w') : SesT w' sp rs := by
  obtain ⟨⟨cs, fz, hb⟩, a, cap, c0, f0, hR, hc, hf⟩ := h
  exact ⟨⟨cs, fz, (Below.block k sp (Array.getElem?_eq_some_iff.1 hb).1).trans hb⟩, a, cap, k.cell c0, k.still c0 f0, hR.keep k, hc, hf.imp id fun ⟨b, off, h1, h2, h3⟩ => ⟨b, off, h1, h2, h3.keep k⟩⟩
theorem rs_of_block {w w' : World} {b off : Nat} {rs : List R4} (h : Rs w (some ⟨b, off, none⟩) rs) (hb : w'.heap[b]? = w.heap[b]?) (hs : w.heap.size ≤ w'.heap.size) : Rs w' (some ⟨b, off, none⟩) rs := by
  rcases h with h | ⟨b', off', e, hl, h⟩
  · exact .inl h
  · injection e with e
    injection e with e1 e2 _
    subst e1; subst e2
    refine .inr ⟨b, off, rfl, Nat.lt_of_lt_of_le hl hs, fun i hi => ?_⟩
    have h9 := h i hi
    exact ⟨(World.cell?_of_block (w := w) hb).trans h9.s, (World.cell?_of_block (w := w) hb).trans h9.d, (World.cell?_of_block (w := w) hb).trans h9.k, (World.cell?_of_block (w := w) hb).trans h9.v⟩
/-- Where other blocks are kept than a builder's, a session stays. -/
theorem SesT.oth {w w' : World} {sp bb E : Nat} {rs : List R4} (h : SesT w sp rs) (k : Lib.OthersKept E (some bb) w w') (hs : w.heap.size ≤ w'.heap.size) (hne : sp ≠ bb) (hbb : ¬ TyR w bb) (hE1 : E ≠ 34) (hE2 : E ≠ 54) : SesT w' sp rs := by
  obtain ⟨⟨cs, fz, hb⟩, a, cap, c0, f0, hR, hc, hf⟩ := h
  have hb2 : w'.heap[sp]? = some (.cells cs 34 fz) := k sp _ hb (fun e => hne (Option.some.inj e)) (fun c f e => by injection e with _ e _; exact hE1 e.symm)
  have e1 : w'.heap[sp]? = w.heap[sp]? := hb2.trans hb.symm
  refine ⟨⟨cs, fz, hb2⟩, a, cap, (World.cell?_of_block (w := w) e1).trans c0, (World.frozen?_of_block (w := w) e1).trans f0, ?_, hc, ?_⟩
  · rcases hf with ⟨_, h2, _⟩ | ⟨b, off, rfl, h2, cs3, fz3, h3⟩
    · exact .inl h2
    · have h4 : w'.heap[b]? = some (.cells cs3 54 fz3) := k b _ h3 (fun e => hbb (by rw [← Option.some.inj e]; exact ⟨cs3, fz3, h3⟩)) (fun c f e => by injection e with _ e _; exact hE2 e.symm)
      exact rs_of_block hR (h4.trans h3.symm) hs
  · rcases hf with h | ⟨b, off, h1, h2, cs3, fz3, h3⟩
    · exact .inl h
    · exact .inr ⟨b, off, h1, h2, cs3, fz3, k b _ h3 (fun e => hbb (by rw [← Option.some.inj e]; exact ⟨cs3, fz3, h3⟩)) (fun c f e => by injection e with _ e _; exact hE2 e.symm)⟩
theorem frT_monoZ {w0 w w' : World} {a : Option Addr} {ys : List R4} (h : FrT w w' a ys) (hs : w0.heap.size ≤ w.heap.size) : FrT w0 w' a ys := by
  rcases h with h | ⟨g, ha, hg, hl, h⟩
  · exact .inl h
  · exact .inr ⟨g, ha, Nat.le_trans hs hg, hl, h⟩
theorem ty_put {w : World} {b o : Nat} {u : Value} {T : Nat} (h : ∃ cs fz, w.heap[b]? = some (.cells cs T fz)) : ∃ cs fz, (w.setCell ⟨b, o, none⟩ u).heap[b]? = some (.cells cs T fz) := by
  obtain ⟨cs, fz, h⟩ := h
  exact ⟨_, _, by simp only [World.setCell, Array.getElem?_modify, if_pos, h]; rfl⟩
theorem tyS_keep {w w' : World} {b T : Nat} (h : ∃ cs fz, w.heap[b]? = some (.cells cs T fz)) (k : Keep w w') : ∃ cs fz, w'.heap[b]? = some (.cells cs T fz) := by
  obtain ⟨cs, fz, h⟩ := h
  exact ⟨cs, fz, (Below.block k b (Array.getElem?_eq_some_iff.1 h).1).trans h⟩
theorem ty_far {w : World} {b g o : Nat} {u : Value} (h : TyR w g) (hne : g ≠ b) : TyR (w.setCell ⟨b, o, none⟩ u) g := by
  obtain ⟨cs, fz, h⟩ := h
  exact ⟨cs, fz, (Below.heap_setCell _ _ _ _ (fun e => hne e)).trans h⟩
set_option maxRecDepth 100000 in
set_option maxHeartbeats 4000000 in
theorem addT_any (sp : Nat) (rs : List R4) (s d k v : Int) (w : World) (hs : SesT w sp rs) (hl : rs.length ≤ 40) :
    Calls Tryz.prog 50 #[.pointer (some ⟨sp, 0, none⟩), .agg #[.int .i64 s, .int .i64 d, .int .i64 k, .int .i64 v]] w fun e w' => (∃ t : ByteArray, e = .returned (.string t) ∧ t.data.toList = if adB rs (s, d, k, v) then sOk else sFull) ∧ SesT w' sp (if adB rs (s, d, k, v) then adL rs (s, d, k, v) else rs) ∧ Only sp w w' := by
  have HSes := Lib.hid hs
  obtain ⟨hty, a, cap, c0, f0, hR, hc, hf⟩ := hs
  have HTy := Lib.hid hty
  clear hty
  have HAd : Hid (∀ W, Keep w W → Calls Tryz.prog 73 #[.slice a rs.length cap, .agg #[.int .i64 s, .int .i64 d, .int .i64 k, .int .i64 v]] W fun e w' => ∃ (a' : Option Addr) (c' : Nat), e = .returned (.tuple #[.slice a' (adL rs (s, d, k, v)).length c', .bool (adB rs (s, d, k, v))]) ∧ (adL rs (s, d, k, v)).length ≤ c' ∧ FrT w w' a' (adL rs (s, d, k, v)) ∧ Keep W w') := Lib.hid (fun W kW => by
    rcases hf with ⟨rfl, rfl, rfl⟩ | ⟨b, off, rfl, _, _⟩
    · exact (sad0T_impl s d k v W).mono fun e w' ⟨a', c', he, hc', hF, hk⟩ => ⟨a', c', he, hc', frT_monoZ hF kW.size, hk⟩
    · exact (sadT_impl b off cap rs s d k v W (hR.keep kW) (by omega) hc).mono fun e w' ⟨a', c', he, hc', hF, hk⟩ => ⟨a', c', he, hc', frT_monoZ hF kW.size, hk⟩)
  have hsp : sp < w.heap.size := World.block_lt_of_cell? w _ c0
  have HYes : Hid (adB rs (s, d, k, v) = true → 0 < (adL rs (s, d, k, v)).length) := Lib.hid (fun h => by
    simp only [adB, Bool.and_eq_true, decide_eq_true_eq] at h
    have h1 : (stB rs && rB (s, d, k, v)) = true := by simp [h.1.1, h.1.2]
    simp [adL, h1, h.2])
  generalize adL rs (s, d, k, v) = L at *
  generalize adB rs (s, d, k, v) = ok at *
  generalize hn : rs.length = n at *
  have k4 : Keep w (w.alloc (.cells #[.int .i64 s, .int .i64 d, .int .i64 k, .int .i64 v] 54)) := (Keep.refl w).alloc _
  have y0 : (w.alloc (.cells #[.int .i64 s, .int .i64 d, .int .i64 k, .int .i64 v] 54)).cell? ⟨w.heap.size, 0, none⟩ = some (.int .i64 s) := World.cell?_alloc_new w _ _ 0
  have y1 : (w.alloc (.cells #[.int .i64 s, .int .i64 d, .int .i64 k, .int .i64 v] 54)).cell? ⟨w.heap.size, 1, none⟩ = some (.int .i64 d) := World.cell?_alloc_new w _ _ 1
  have y2 : (w.alloc (.cells #[.int .i64 s, .int .i64 d, .int .i64 k, .int .i64 v] 54)).cell? ⟨w.heap.size, 2, none⟩ = some (.int .i64 k) := World.cell?_alloc_new w _ _ 2
  have y3 : (w.alloc (.cells #[.int .i64 s, .int .i64 d, .int .i64 k, .int .i64 v] 54)).cell? ⟨w.heap.size, 3, none⟩ = some (.int .i64 v) := World.cell?_alloc_new w _ _ 3
  have y4 := k4.cell c0
  have y5 := k4.still c0 f0
  have HY2 := Lib.hid (fun h : ok = true => HYes.out h)
  clear HYes
  cases ok
  all_goals
    go_enter Tryz.func50, Tryz.ntmps50
    go_wp2_with fail
    generalize hbk : w.heap.size = bk at *
    generalize w.alloc (.cells #[.int .i64 s, .int .i64 d, .int .i64 k, .int .i64 v] 54) = w4 at *
    go_region_held3 (fun w' => Keep w4 w' ∧ w'.cell? ⟨bk, 0, none⟩ = some (.int .i64 s) ∧ w'.cell? ⟨bk, 1, none⟩ = some (.int .i64 d) ∧ w'.cell? ⟨bk, 2, none⟩ = some (.int .i64 k) ∧ w'.cell? ⟨bk, 3, none⟩ = some (.int .i64 v) ∧ w'.cell? ⟨sp, 0, none⟩ = some (.slice a n cap))
      ((go_split_ands; refine (fun hK => ⟨hK, hK.cell y0, hK.cell y1, hK.cell y2, hK.cell y3, hK.cell y4⟩ : Keep w4 _ → _) ?_; (repeat' (first | with_reducible assumption | with_reducible exact Keep.refl _ | with_reducible refine Keep.drew ?_ | with_reducible refine Keep.drewN ?_ _ | with_reducible refine Keep.trans ?_ hk))))
      ((go_at_call 73; go_split_ands; (with_reducible refine (HAd.out _ (k4.trans (by (repeat' (first | with_reducible assumption | with_reducible exact Keep.refl _ | with_reducible refine Keep.drew ?_ | with_reducible refine Keep.drewN ?_ _ | with_reducible refine Keep.trans ?_ hk))))).mono ?_); rintro e w' ⟨a', c', rfl, hc', hF, hk⟩; go_split_ands; have hK : Keep w4 w' := Keep.trans (by (repeat' (first | with_reducible assumption | with_reducible exact Keep.refl _ | with_reducible refine Keep.drew ?_ | with_reducible refine Keep.drewN ?_ _ | with_reducible refine Keep.trans ?_ hk))) hk))
  · go_wp2
    go_ret
    have hk9 : Keep w _ := k4.trans hK
    exact ⟨⟨_, rfl, rfl⟩, HSes.out.keep hk9, onlyOfZ hk9⟩
  · have f9 := hK.still y4 y5
    have c9 := hK.cell y4
    have hk9 : Keep w _ := k4.trans hK
    have HF := Lib.hid hF
    have h0 : 0 < L.length := HY2.out (by first | trivial | rfl)
    clear hF
    go_wp2
    go_ret
    refine ⟨⟨_, rfl, rfl⟩, ?_, (onlyOfZ hk9).put1 _ _⟩
    have hty9 := tyS_keep HTy.out hk9
    rcases HF.out with hn | ⟨g, rfl, hg, hgl, hW, hT⟩
    · rw [hn] at h0; simp at h0
    · refine ⟨ty_put hty9, some ⟨g, 0, none⟩, c', World.cell?_setCell_same _ _ _ c9, (World.frozen?_setCell _ _ _ _).trans f9, ?_, hc', .inr ⟨g, 0, rfl, by omega, ty_far hT (by omega)⟩⟩
      exact ((Only.refl sp _).put1 0 _).rs hW.rs (fun b o hb => by injection hb with hb; injection hb with hb _ _; omega)
end Go.Proofs.YtnemdnidlbekbaaGreatDoor
namespace Go.Proofs.YtnemdnidlbekbaaGreatDoor
open Go.RowKit
set_option linter.unusedVariables false

theorem freshZ {w0 w w' : World} {a : Option Addr} {zs : List Int} (h : Fresh w w' a zs) (hs : w0.heap.size ≤ w.heap.size) : Fresh w0 w' a zs := by
  rcases h with h | ⟨g, ha, hg, hl, h⟩
  · exact .inl h
  · exact .inr ⟨g, ha, Nat.le_trans hs hg, hl, h⟩
/-- The days that a line asks for. -/
def AkPost (rs : List R4) (ps : List (List UInt8)) (w : World) (e : Ending) (w' : World) : Prop :=
  ∃ (a : Option Addr) (c : Nat), e = .returned (.tuple #[.slice a (akL rs ps).length c, .bool (akOk rs ps)]) ∧ Fresh w w' a (akL rs ps) ∧ Keep w w'
set_option maxRecDepth 100000 in
set_option maxHeartbeats 4000000 in
theorem asked_any (sp g c : Nat) (a : Option Addr) (cap : Nat) (rs : List R4) (bs : List ByteArray) (w : World) (hc : w.cell? ⟨sp, 0, none⟩ = some (.slice a rs.length cap)) (h : Rs w a rs) (hrm : rs.length ≤ 1048576) (hrc : rs.length ≤ cap) (hS : Ss w g bs) (hm : bs.length ≤ 1048576) (hb : ∀ i, (bs.getD i ⟨#[]⟩).size ≤ 1048576) :
    Calls Tryz.prog 99 #[.pointer (some ⟨sp, 0, none⟩), .slice (some ⟨g, 0, none⟩) bs.length c] w (AkPost rs (ws bs) w) := by
  have H1 : Hid (∀ (W : World), Keep w W → Calls Tryz.prog 101 #[.slice (some ⟨g, 0, none⟩) bs.length c, .int .i64 1] W fun e w' => e = .returned (.int .i64 (wn (ws bs) 1)) ∧ Keep W w') := Lib.hid (fun W k => number_any g c bs 1 W (hS.keep k) hm (hb 1))
  have H2 : Hid (∀ (W : World), Keep w W → Calls Tryz.prog 101 #[.slice (some ⟨g, 0, none⟩) bs.length c, .int .i64 2] W fun e w' => e = .returned (.int .i64 (wn (ws bs) 2)) ∧ Keep W w') := Lib.hid (fun W k => number_any g c bs 2 W (hS.keep k) hm (hb 2))
  have H3 : Hid (∀ (W : World), Keep w W → Calls Tryz.prog 101 #[.slice (some ⟨g, 0, none⟩) bs.length c, .int .i64 3] W fun e w' => e = .returned (.int .i64 (wn (ws bs) 3)) ∧ Keep W w') := Lib.hid (fun W k => number_any g c bs 3 W (hS.keep k) hm (hb 3))
  have H4 : Hid (∀ (W : World), Keep w W → Calls Tryz.prog 101 #[.slice (some ⟨g, 0, none⟩) bs.length c, .int .i64 4] W fun e w' => e = .returned (.int .i64 (wn (ws bs) 4)) ∧ Keep W w') := Lib.hid (fun W k => number_any g c bs 4 W (hS.keep k) hm (hb 4))
  have HSS : Hid (∀ (W : World), Keep w W → Calls Tryz.prog 122 #[.slice a rs.length cap, .int .i64 (rs.length : Int), .int .i64 (wn (ws bs) 1), .int .i64 (wn (ws bs) 2), .int .i64 (wn (ws bs) 3), .int .i64 (wn (ws bs) 4)] W fun e w' => ∃ (a' : Option Addr) (c' : Nat), e = .returned (.tuple #[.slice a' (ssL rs (rs.length : Nat) (wn (ws bs) 1) (wn (ws bs) 2) (wn (ws bs) 3) (wn (ws bs) 4)).length c', .bool (ssOk rs (rs.length : Nat) (wn (ws bs) 1) (wn (ws bs) 2) (wn (ws bs) 3) (wn (ws bs) 4))]) ∧ Fresh w w' a' (ssL rs (rs.length : Nat) (wn (ws bs) 1) (wn (ws bs) 2) (wn (ws bs) 3) (wn (ws bs) 4)) ∧ Keep W w') := Lib.hid (fun W k => (ss_impl a cap rs (rs.length : Nat) _ _ _ _ W (h.keep k) (by omega) hrc).mono fun e w' ⟨a', c', he, hF, hk⟩ => ⟨a', c', he, freshZ hF k.size, hk⟩)
  unfold AkPost akL akOk
  generalize wn (ws bs) 1 = n1 at *
  generalize wn (ws bs) 2 = n2 at *
  generalize wn (ws bs) 3 = n3 at *
  generalize wn (ws bs) 4 = n4 at *
  generalize hn : rs.length = n at *
  clear hS hb h
  go_enter Tryz.func99, Tryz.ntmps99
  go_wp2_with fail
  go_region_held3 (fun w' => Keep w w' ∧ w'.cell? ⟨sp, 0, none⟩ = some (.slice a n cap))
    ((go_split_ands; refine (fun hK => ⟨hK, hK.cell hc⟩ : Keep w _ → _) ?_; (repeat' (first | with_reducible assumption | with_reducible exact Keep.refl _ | with_reducible refine Keep.drew ?_ | with_reducible refine Keep.drewN ?_ _ | with_reducible refine Keep.alloc ?_ _ | with_reducible refine Keep.trans ?_ hk))))
    ((first
    | (go_at_call 101; go_split_ands; (with_reducible refine (H1.out _ (by (repeat' (first | with_reducible assumption | with_reducible exact Keep.refl _ | with_reducible refine Keep.drew ?_ | with_reducible refine Keep.drewN ?_ _ | with_reducible refine Keep.alloc ?_ _ | with_reducible refine Keep.trans ?_ hk)))).mono ?_); rintro e w' ⟨rfl, hk⟩; go_split_ands; have hK : Keep w w' := Keep.trans (by (repeat' (first | with_reducible assumption | with_reducible exact Keep.refl _ | with_reducible refine Keep.drew ?_ | with_reducible refine Keep.drewN ?_ _ | with_reducible refine Keep.alloc ?_ _ | with_reducible refine Keep.trans ?_ hk))) hk)
    | (go_at_call 101; go_split_ands; (with_reducible refine (H2.out _ (by (repeat' (first | with_reducible assumption | with_reducible exact Keep.refl _ | with_reducible refine Keep.drew ?_ | with_reducible refine Keep.drewN ?_ _ | with_reducible refine Keep.alloc ?_ _ | with_reducible refine Keep.trans ?_ hk)))).mono ?_); rintro e w' ⟨rfl, hk⟩; go_split_ands; have hK : Keep w w' := Keep.trans (by (repeat' (first | with_reducible assumption | with_reducible exact Keep.refl _ | with_reducible refine Keep.drew ?_ | with_reducible refine Keep.drewN ?_ _ | with_reducible refine Keep.alloc ?_ _ | with_reducible refine Keep.trans ?_ hk))) hk)
    | (go_at_call 101; go_split_ands; (with_reducible refine (H3.out _ (by (repeat' (first | with_reducible assumption | with_reducible exact Keep.refl _ | with_reducible refine Keep.drew ?_ | with_reducible refine Keep.drewN ?_ _ | with_reducible refine Keep.alloc ?_ _ | with_reducible refine Keep.trans ?_ hk)))).mono ?_); rintro e w' ⟨rfl, hk⟩; go_split_ands; have hK : Keep w w' := Keep.trans (by (repeat' (first | with_reducible assumption | with_reducible exact Keep.refl _ | with_reducible refine Keep.drew ?_ | with_reducible refine Keep.drewN ?_ _ | with_reducible refine Keep.alloc ?_ _ | with_reducible refine Keep.trans ?_ hk))) hk)
    | (go_at_call 101; go_split_ands; (with_reducible refine (H4.out _ (by (repeat' (first | with_reducible assumption | with_reducible exact Keep.refl _ | with_reducible refine Keep.drew ?_ | with_reducible refine Keep.drewN ?_ _ | with_reducible refine Keep.alloc ?_ _ | with_reducible refine Keep.trans ?_ hk)))).mono ?_); rintro e w' ⟨rfl, hk⟩; go_split_ands; have hK : Keep w w' := Keep.trans (by (repeat' (first | with_reducible assumption | with_reducible exact Keep.refl _ | with_reducible refine Keep.drew ?_ | with_reducible refine Keep.drewN ?_ _ | with_reducible refine Keep.alloc ?_ _ | with_reducible refine Keep.trans ?_ hk))) hk)
    | (go_at_call 122; go_split_ands; (with_reducible refine (HSS.out _ (by (repeat' (first | with_reducible assumption | with_reducible exact Keep.refl _ | with_reducible refine Keep.drew ?_ | with_reducible refine Keep.drewN ?_ _ | with_reducible refine Keep.alloc ?_ _ | with_reducible refine Keep.trans ?_ hk)))).mono ?_); rintro e w' ⟨a', c', rfl, hF, hk⟩; go_split_ands; have hK : Keep w w' := Keep.trans (by (repeat' (first | with_reducible assumption | with_reducible exact Keep.refl _ | with_reducible refine Keep.drew ?_ | with_reducible refine Keep.drewN ?_ _ | with_reducible refine Keep.alloc ?_ _ | with_reducible refine Keep.trans ?_ hk))) hk)))
  all_goals
    go_wp2
    go_ret2
    exact ⟨a', c', rfl, hF, by (repeat' (first | with_reducible assumption | with_reducible exact Keep.refl _ | with_reducible refine Keep.drew ?_ | with_reducible refine Keep.drewN ?_ _ | with_reducible refine Keep.alloc ?_ _ | with_reducible refine Keep.trans ?_ hk))⟩
end Go.Proofs.YtnemdnidlbekbaaGreatDoor
namespace Go.Proofs.YtnemdnidlbekbaaGreatDoor
open Go.RowKit
set_option linter.unusedVariables false

def monthTab : List Int := [31, 28, 31, 30, 31, 30, 31, 31, 30, 31, 30, 31]
open Go.Lib
theorem gTab : Tryz.prog.globalNamed "internal/strconv.uint64pow10" = some 1 := by kernel_rfl
theorem gTabType : (Tryz.prog.globals[1]?).map (·.type) = some 132 := by kernel_rfl
theorem cellsTab : Tryz.prog.cellsOf 132 = 20 := by kernel_rfl
theorem cellsElt : Tryz.prog.cellsOf 108 = 1 := by kernel_rfl
theorem tabData_eq : (Rows.laid_internal_strconv_uint64pow10 : DataW Unit) = tabData .u64 pow10Tab := by kernel_rfl

/-- The library's table of powers of ten. -/
def Tabs (w : World) : Prop := TabIs Tryz.prog w "internal/strconv.uint64pow10" .u64 pow10Tab
theorem Tabs.keep {w w' : World} (h : Tabs w) (k : Keep w w') : Tabs w' := by
  unfold Tabs TabIs World.var? at h ⊢
  rw [gTab] at h ⊢
  simp only [Option.bind_some] at h ⊢
  have hg : 1 < w.heap.size := by
    cases hh : w.heap[1]? with
    | none => rw [hh] at h; cases h
    | some o => exact (Array.getElem?_eq_some_iff.1 hh).1
  rw [Below.block k _ hg]; exact h
theorem Tabs.drewN {w : World} (h : Tabs w) (n : Nat) : Tabs (w.drewN n) := h
theorem tabs_of_laid {W : World} (h : laidMetH Tryz.prog [("math/bits.deBruijn32tab", Rows.laid_math_bits_deBruijn32tab), ("math/bits.deBruijn64tab", Rows.laid_math_bits_deBruijn64tab), ("internal/strconv.uint64pow10", Rows.laid_internal_strconv_uint64pow10)] W) : Tabs W := by
  have h' : laidMet Tryz.prog [("math/bits.deBruijn32tab", Rows.laid_math_bits_deBruijn32tab), ("math/bits.deBruijn64tab", Rows.laid_math_bits_deBruijn64tab), ("internal/strconv.uint64pow10", Rows.laid_internal_strconv_uint64pow10)] W := h
  obtain ⟨ps, ⟨_, _, _, _, _, _, _, _, _, _, ⟨_, _, _, _, _, _, _, _, _, _, ⟨g', t', cs, fuel, p, q, hg', ht', hvar, hd, _, _⟩, _⟩, _⟩, _⟩ := h'
  obtain rfl := Option.some.inj (gTab.symm.trans hg')
  obtain rfl := Option.some.inj (gTabType.symm.trans ht')
  rw [tabData_eq] at hd
  unfold Tabs TabIs
  rw [hvar, ← cells_of_tab Tryz.underlying132 Tryz.underlying108 cellsElt cellsTab hd]

/-- The cells that a laid datum of numbers stands for. -/
def laidCells : DataW Unit → Array Value
  | .agg l => (l.map fun d => match d with | .lit (.int k z) => Value.int k z | _ => undef).toArray
  | _ => #[]
def layAt (cs : Array Value) : Obj → Obj
  | .cells _ t frozen => .cells cs t frozen
  | o => o
/-- A world for the witness: the settled one, the tables holding what their initialisers lay. -/
noncomputable def laidWorld (os : Os) : World :=
  { World.holding Tryz.prog os ⟨#[], #[], []⟩ with heap := (((World.holding Tryz.prog os ⟨#[], #[], []⟩).heap.modify 4 (layAt (laidCells Rows.laid_math_bits_deBruijn32tab))).modify 5 (layAt (laidCells Rows.laid_math_bits_deBruijn64tab))).modify 1 (layAt (laidCells Rows.laid_internal_strconv_uint64pow10)) }
end Go.Proofs.YtnemdnidlbekbaaGreatDoor
namespace Go.Proofs.YtnemdnidlbekbaaGreatDoor
open Go.RowKit Go.Lib
set_option linter.unusedVariables false

theorem keep_grow (w : World) (q : Nat) (os : Array Obj) : Keep w (Go.Sort.grow (w.drewN q) os) :=
  ⟨rfl, rfl, rfl, by simp [Go.Sort.grow], fun i hi => by
    show ((w.drewN q).heap ++ os)[i]? = _
    rw [Array.getElem?_append_left (by show i < w.heap.size; omega)]
    rfl⟩
theorem itoa_any (n : Int) (w : World) (T : Tabs w) (h0 : -99999 ≤ n) (h1 : n ≤ 99999) :
    Calls Tryz.prog 25 #[.int .i64 n] w fun e w' => e = .returned (.string (dtx n)) ∧ Keep w w' :=
  (Tryz.strconv_Itoa n (by omega) (by omega) w T).mono fun e w' ⟨he, k, os, hw⟩ => ⟨he, by rw [hw]; exact keep_grow w k os⟩
end Go.Proofs.YtnemdnidlbekbaaGreatDoor
namespace Go.Proofs.YtnemdnidlbekbaaGreatDoor
open Go.RowKit
set_option linter.unusedVariables false

def dyB (z : Int) : ByteArray := if z = -9999 then ⟨#[45]⟩ else dtx z
theorem dyB_list (z : Int) : (dyB z).data.toList = dyW z := by
  unfold dyB dyW
  split
  · rfl
  · rfl
theorem dtx_ten {z : Int} (h0 : -99999 ≤ z) (h1 : z ≤ 99999) : (dtx z).size ≤ 10 := by
  have := dtx_size (n := z) h0 h1
  omega
theorem dyB_size {z : Int} (h0 : -99999 ≤ z) (h1 : z ≤ 99999) : (dyB z).size ≤ 10 := by
  unfold dyB
  split
  · decide
  · exact dtx_ten h0 h1
set_option maxHeartbeats 1000000 in
theorem day_any (z : Int) (w : World) (T : Tabs w) (h0 : -99999 ≤ z) (h1 : z ≤ 99999) :
    Calls Tryz.prog 100 #[.int .i64 z] w fun e w' => e = .returned (.string (dyB z)) ∧ Keep w w' := by
  by_cases hz : z = -9999
  · subst hz
    go_enter Tryz.func100, Tryz.ntmps100
    go_wp2
    go_ret
    exact ⟨rfl, Keep.refl _⟩
  · have e : dyB z = dtx z := by simp [dyB, hz]
    rw [e]
    go_enter Tryz.func100, Tryz.ntmps100
    go_wp2_with fail
    refine (itoa_any z _ T h0 h1).mono ?_
    rintro e w1 ⟨rfl, k1⟩
    go_wp2
    go_ret
    exact ⟨rfl, k1⟩
set_option maxRecDepth 100000 in
set_option maxHeartbeats 2000000 in
theorem listed_day (name : ByteArray) (a : Option Addr) (cap : Nat) (zs : List Int) (w : World) (h : Ls w a zs) (hm : zs.length ≤ 1048576) (T : Tabs w) (hn : name.size ≤ 1000) (hb : ∀ i, i < zs.length → -99999 ≤ zs.getD i 0 ∧ zs.getD i 0 ≤ 99999) :
    Calls Tryz.prog 51 #[.string name, .slice a zs.length cap, .func (.func 100) #[] #[]] w fun e w' => (∃ s : ByteArray, e = .returned (.string s) ∧ s.data.toList = lsT name.data.toList (zs.map dyW)) ∧ Keep w w' := by
  have HT := Lib.hid T
  have HB := Lib.hid hb
  clear T hb
  go_enter Tryz.func51, Tryz.ntmps51
  go_wp2_with fail
  go_loopw [7, 13] (fun l i wr => ∃ (k : Nat) (s : ByteArray), k ≤ zs.length ∧ i = .int .i64 k ∧ l = .string s ∧ Hid (s.data.toList = lsT name.data.toList ((zs.take k).map dyW)) ∧ s.size ≤ 1000 + 16 * k ∧ Keep w wr) (fun _ i _ => zs.length - (intOf i).toNat)
  case atStart => exact ⟨0, name, by omega, rfl, rfl, Lib.hid (by simp [lsT]), by omega, Keep.refl _⟩
  case round =>
    obtain ⟨k, s, hk, rfl, rfl, HS, hsz, hK⟩ := hrel
    by_cases hlt : k < zs.length
    · obtain ⟨b, off, rfl, hbb, cz⟩ := (h.keep hK).at_ hlt
      obtain ⟨h1, h2⟩ := HB.out k hlt
      have HN : Hid ((zs.take (k + 1)).map dyW = (zs.take k).map dyW ++ [dyW (zs.getD k 0)]) := Lib.hid (by
        rw [List.take_succ_eq_append_getElem hlt, List.map_append]
        simp [List.getD_eq_getElem?_getD, hlt])
      generalize zs.getD k 0 = z at *
      have HF := Lib.hid (fun W (kW : Keep w W) => day_any z W (HT.out.keep kW) h1 h2)
      have HU : Hid ((dyB z).data.toList = dyW z) := Lib.hid (by exact dyB_list z)
      have hus : (dyB z).size ≤ 10 := dyB_size h1 h2
      generalize dyB z = u at HF HU hus
      have t1 : ¬ 9223372036854775807 < 1 + u.size := by omega
      have t2 : ¬ 9223372036854775807 < s.size + (1 + u.size) := by omega
      have q1 : (0 : Int) ≤ (k : Int) := by omega
      have q2 : (k : Int) < (zs.length : Int) := by omega
      clear h1 h2
      go_wp2_with fail
      refine (HF.out _ hK).mono ?_
      rintro e w1 ⟨rfl, k1⟩
      have HS2 : ∀ c : ByteArray, c.data.toList = [32] → Hid ((s ++ (c ++ u)).data.toList = lsT name.data.toList ((zs.take (k + 1)).map dyW)) := fun c hc => Lib.hid (by
        rw [HN.out, lsT_snoc, ← HS.out, ← HU.out]; simp [hc])
      have HS3 : ∀ c : ByteArray, c.data.toList = [32] → (s ++ (c ++ u)).size ≤ 1000 + 16 * (k + 1) := fun c hc => by
        have h9 : c.size = 1 := by
          have h8 : c.data.toList.length = 1 := by rw [hc]; rfl
          simpa using h8
        rw [ByteArray.size_append, ByteArray.size_append, h9]; omega
      go_wp2
      go_roundw
      case rel => exact ⟨k + 1, _, by omega, by go_num, rfl, HS2 _ rfl, HS3 _ rfl, hK.trans k1⟩
      case measure => simp [intOf]; omega
    · obtain rfl : k = zs.length := by omega
      have HF := Lib.hid (show s.data.toList = lsT name.data.toList (zs.map dyW) by have := HS.out; rwa [List.take_length] at this)
      go_wp2
      go_ret
      exact ⟨⟨s, rfl, HF.out⟩, hK⟩
set_option maxRecDepth 100000 in
set_option maxHeartbeats 2000000 in
theorem listed_num (name : ByteArray) (a : Option Addr) (cap : Nat) (zs : List Int) (w : World) (h : Ls w a zs) (hm : zs.length ≤ 1048576) (T : Tabs w) (hn : name.size ≤ 1000) (hb : ∀ i, i < zs.length → -99999 ≤ zs.getD i 0 ∧ zs.getD i 0 ≤ 99999) :
    Calls Tryz.prog 51 #[.string name, .slice a zs.length cap, .func (.func 25) #[] #[]] w fun e w' => (∃ s : ByteArray, e = .returned (.string s) ∧ s.data.toList = lsT name.data.toList (zs.map Lib.itoa)) ∧ Keep w w' := by
  have HT := Lib.hid T
  have HB := Lib.hid hb
  clear T hb
  go_enter Tryz.func51, Tryz.ntmps51
  go_wp2_with fail
  go_loopw [7, 13] (fun l i wr => ∃ (k : Nat) (s : ByteArray), k ≤ zs.length ∧ i = .int .i64 k ∧ l = .string s ∧ Hid (s.data.toList = lsT name.data.toList ((zs.take k).map Lib.itoa)) ∧ s.size ≤ 1000 + 16 * k ∧ Keep w wr) (fun _ i _ => zs.length - (intOf i).toNat)
  case atStart => exact ⟨0, name, by omega, rfl, rfl, Lib.hid (by simp [lsT]), by omega, Keep.refl _⟩
  case round =>
    obtain ⟨k, s, hk, rfl, rfl, HS, hsz, hK⟩ := hrel
    by_cases hlt : k < zs.length
    · obtain ⟨b, off, rfl, hbb, cz⟩ := (h.keep hK).at_ hlt
      obtain ⟨h1, h2⟩ := HB.out k hlt
      have HN : Hid ((zs.take (k + 1)).map Lib.itoa = (zs.take k).map Lib.itoa ++ [Lib.itoa (zs.getD k 0)]) := Lib.hid (by
        rw [List.take_succ_eq_append_getElem hlt, List.map_append]
        simp [List.getD_eq_getElem?_getD, hlt])
      generalize zs.getD k 0 = z at *
      have HF := Lib.hid (fun W (kW : Keep w W) => itoa_any z W (HT.out.keep kW) h1 h2)
      have HU : Hid ((dtx z).data.toList = Lib.itoa z) := Lib.hid (by rfl)
      have hus : (dtx z).size ≤ 10 := dtx_ten h1 h2
      generalize dtx z = u at HF HU hus
      have t1 : ¬ 9223372036854775807 < 1 + u.size := by omega
      have t2 : ¬ 9223372036854775807 < s.size + (1 + u.size) := by omega
      have q1 : (0 : Int) ≤ (k : Int) := by omega
      have q2 : (k : Int) < (zs.length : Int) := by omega
      clear h1 h2
      go_wp2_with fail
      refine (HF.out _ hK).mono ?_
      rintro e w1 ⟨rfl, k1⟩
      have HS2 : ∀ c : ByteArray, c.data.toList = [32] → Hid ((s ++ (c ++ u)).data.toList = lsT name.data.toList ((zs.take (k + 1)).map Lib.itoa)) := fun c hc => Lib.hid (by
        rw [HN.out, lsT_snoc, ← HS.out, ← HU.out]; simp [hc])
      have HS3 : ∀ c : ByteArray, c.data.toList = [32] → (s ++ (c ++ u)).size ≤ 1000 + 16 * (k + 1) := fun c hc => by
        have h9 : c.size = 1 := by
          have h8 : c.data.toList.length = 1 := by rw [hc]; rfl
          simpa using h8
        rw [ByteArray.size_append, ByteArray.size_append, h9]; omega
      go_wp2
      go_roundw
      case rel => exact ⟨k + 1, _, by omega, by go_num, rfl, HS2 _ rfl, HS3 _ rfl, hK.trans k1⟩
      case measure => simp [intOf]; omega
    · obtain rfl : k = zs.length := by omega
      have HF := Lib.hid (show s.data.toList = lsT name.data.toList (zs.map Lib.itoa) by have := HS.out; rwa [List.take_length] at this)
      go_wp2
      go_ret
      exact ⟨⟨s, rfl, HF.out⟩, hK⟩
end Go.Proofs.YtnemdnidlbekbaaGreatDoor
namespace Go.Proofs.YtnemdnidlbekbaaGreatDoor
open Go.RowKit
set_option linter.unusedVariables false

set_option maxRecDepth 100000 in
set_option maxHeartbeats 2000000 in
theorem known2_any (a : Option Addr) (c : Nat) (zs : List Int) (w : World) (h : Ls w a zs) (hm : zs.length ≤ 1048576) :
    Calls Tryz.prog 115 #[.slice a zs.length c] w (MadeL (knl zs) w) := by
  obtain ⟨i0, hi0, hz0, hz1, hz2⟩ := info_parts infoIntL
  go_enter Tryz.func115, Tryz.ntmps115
  go_wp2_with fail
  go_loopw [3, 4] (fun u i wr => ∃ (k n g cc : Nat), k ≤ zs.length ∧ n ≤ k ∧ i = .int .i64 k ∧ u = .slice (some ⟨g, 0, none⟩) n cc ∧ Hid (wr.ownsRow w.heap.size 3 1 (.slice (some ⟨g, 0, none⟩) n cc) n ((knl (zs.take k)).map (Value.int .i64))) ∧ Keep w wr) (fun _ i _ => zs.length - (intOf i).toNat)
  case atStart => exact ⟨0, 0, w.heap.size, 0, by omega, by omega, rfl, rfl, Lib.hid (World.ownsRow_made w #[] 0 (Nat.le_refl _) (by unfold maxLen; omega) rfl), (Keep.refl w).alloc _⟩
  case round =>
    obtain ⟨k, n, g, cc, hk, hn, rfl, rfl, HW, hK⟩ := hrel
    have hsz := hK.size
    by_cases hlt : k < zs.length
    · obtain ⟨bz, oz, rfl, hbz, cz⟩ := (h.keep hK).at_ hlt
      have hown := HW.out
      have HS0 : Hid (knl (zs.take (k + 1)) = knl (zs.take k) ++ knl [zs.getD k 0]) := Lib.hid (by
        rw [List.take_succ_eq_append_getElem hlt, knl, knl, knl, List.filter_append]
        simp [List.getD_eq_getElem?_getD, hlt])
      by_cases hx : zs.getD k 0 = -9999
      · have HS : Hid (knl (zs.take (k + 1)) = knl (zs.take k)) := Lib.hid (by rw [HS0.out, hx]; simp [knl])
        rw [hx] at cz
        rw [← HS.out] at HW
        clear hx HS0 hown
        go_wp2_with fail
        go_roundw
        case rel => exact ⟨k + 1, n, g, cc, by omega, by omega, by go_num, rfl, HW, hK⟩
        case measure => simp [intOf]; omega
      · have hx2 : (zs.getD k 0 != -9999) = true := bne_iff_ne.2 hx
        have HS : Hid (knl (zs.take (k + 1)) = knl (zs.take k) ++ [zs.getD k 0]) := Lib.hid (by rw [HS0.out]; simp only [knl, List.filter_cons, hx2, List.filter_nil]; rfl)
        clear hx HS0
        generalize zs.getD k 0 = y at cz HS hx2
        go_wp2_with (at_builtin; refine wpList_append_own _ rfl _ _ 64 rfl w.heap.size 3 i0 (.int .i64 0) 1 8 Tryz.underlying64 hi0 hz0 hz1 hz2 rfl (by decide) _ _ _ rfl (hown.alloc _) ⟨wr.heap.size, 0, none⟩ 1 1 [.int .i64 y] rfl rfl ?c1a ?c2a ?c3a ?c4a ?c5a ?_)
        case c1a =>
          intro j u hj
          match j, hj with
          | 0, hj => simp at hj; subst hj; simp [Addr.add]
        case c2a => first | rfl | (intro u hu; simp at hu; subst hu; rfl)
        case c3a => unfold maxLen; omega
        case c4a => omega
        case c5a => first | omega | (simp; omega)
        intro v' w5 hown' hgrow hnil
        obtain ⟨g', c', rfl, hbg, hlg⟩ := hown'.form (by omega)
        have HN : Hid (w5.ownsRow w.heap.size 3 1 (.slice (some ⟨g', 0, none⟩) (n + 1) c') (n + 1) ((knl (zs.take (k + 1))).map (Value.int .i64))) := Lib.hid (by rw [HS.out]; simpa using hown')
        have HK2 := Lib.hid ((Below.grown (hK.alloc (.cells #[.int .i64 y] 3)) hgrow (hK.alloc (.cells #[.int .i64 y] 3)).size (fun q hq => (hown.lt q hq).1)) : Keep w w5)
        clear hown' hgrow hnil hown
        go_wp2
        go_roundw
        case rel => exact ⟨k + 1, n + 1, g', c', by omega, by omega, by go_num, rfl, HN, HK2.out⟩
        case measure => simp [intOf]; omega
    · obtain rfl : k = zs.length := by omega
      have HF := Lib.hid (show wr.ownsRow w.heap.size 3 1 (.slice (some ⟨g, 0, none⟩) n cc) n ((knl zs).map (Value.int .i64)) by
        have h1 := HW.out
        rwa [List.take_length] at h1)
      go_wp2
      go_ret
      exact made_own HF.out hK
theorem kv1_any (x : Int) (w : World) : Calls Tryz.prog 153 #[.int .i64 x] w fun e w' => e = .returned (.bool (x == -9999)) ∧ w = w' := by
  go_enter Tryz.func153, Tryz.ntmps153
  go_wp2
  go_ret
  exact ⟨rfl, rfl⟩
def FirstNone (zs : List Int) (w : World) (e : Ending) (w' : World) : Prop :=
  ((∃ i, i < zs.length ∧ zs.getD i 0 = -9999 ∧ (∀ j, j < i → zs.getD j 0 ≠ -9999) ∧ e = .returned (.int .i64 (i : Int))) ∨ ((∀ j, j < zs.length → zs.getD j 0 ≠ -9999) ∧ e = .returned (.int .i64 (-1)))) ∧ w = w'
set_option maxHeartbeats 1000000 in
theorem ix_any (a : Option Addr) (cap : Nat) (zs : List Int) (w : World) (h : Ls w a zs) (hm : zs.length ≤ 1048576) :
    Calls Tryz.prog 155 #[.slice a zs.length cap, .func (.func 153) #[] #[]] w (FirstNone zs w) := by
  go_enter Tryz.func155, Tryz.ntmps155
  go_wp2_with fail
  go_loop [8] (fun i => ∃ k : Nat, k ≤ zs.length ∧ i = .int .i64 k ∧ Hid (∀ j, j < k → zs.getD j 0 ≠ -9999)) (fun i => zs.length - (intOf i).toNat)
  case atStart => exact ⟨0, by omega, rfl, Lib.hid (fun j hj => absurd hj (by omega))⟩
  case round =>
    obtain ⟨k, hk, rfl, HA⟩ := hrel
    by_cases hlt : k < zs.length
    · obtain ⟨b, off, rfl, hb, hc⟩ := h.at_ hlt
      by_cases hx : zs.getD k 0 = -9999
      · have HX := Lib.hid hx
        rw [hx] at hc
        clear hx
        go_wp2_with fail
        refine (kv1_any _ _).mono ?_
        rintro e w' ⟨rfl, rfl⟩
        go_wp2
        go_ret
        exact ⟨.inl ⟨k, hlt, HX.out, HA.out, rfl⟩, rfl⟩
      · have hx2 : (zs.getD k 0 == -9999) = false := beq_eq_false_iff_ne.2 hx
        have HS : Hid (∀ j, j < k + 1 → zs.getD j 0 ≠ -9999) := Lib.hid (fun j hj => by
          by_cases e : j < k
          · exact HA.out j e
          · obtain rfl : j = k := by omega
            exact hx)
        clear hx
        generalize zs.getD k 0 = x at hc hx2
        go_wp2_with fail
        refine (kv1_any _ _).mono ?_
        rintro e w' ⟨rfl, rfl⟩
        go_wp2
        go_round
        case rel => exact ⟨k + 1, by omega, by go_num, HS⟩
        case measure => simp [intOf]; omega
    · obtain rfl : k = zs.length := by omega
      go_wp2
      go_ret
      exact ⟨.inr ⟨HA.out, rfl⟩, rfl⟩
theorem zeroI (w : World) : (zeroValue 3).run Tryz.prog w = .ok (.int .i64 0) w := by kernel_rfl
theorem knl_take (zs : List Int) {k : Nat} (h : k < zs.length) : knl (zs.take (k + 1)) = knl (zs.take k) ++ knl [zs.getD k 0] := by
  rw [List.take_succ_eq_append_getElem h, knl, knl, knl, List.filter_append]
  simp [List.getD_eq_getElem?_getD, h]
theorem knl_all {zs : List Int} (h : ∀ j, j < zs.length → zs.getD j 0 ≠ -9999) : knl zs = zs := by
  rw [knl, List.filter_eq_self]
  intro x hx
  obtain ⟨i, hi, rfl⟩ := List.getElem_of_mem hx
  have := h i hi
  refine bne_iff_ne.2 ?_
  simpa [List.getD_eq_getElem?_getD, hi] using this
theorem set_take_snoc {ys : List Int} {n : Nat} (h : n < ys.length) (x : Int) : (ys.set n x).take (n + 1) = ys.take n ++ [x] := by
  rw [List.take_succ_eq_append_getElem (by simpa using h)]
  simp [List.take_set_of_le]
theorem wr_part {w : World} {g : Nat} {ys : List Int} (h : Wr w g ys) (n : Nat) : Wr w g (ys.take n) := by
  intro j hj
  rw [List.length_take] at hj
  have := h j (by omega)
  have e : (ys.take n).getD j 0 = ys.getD j 0 := by simp [List.getD_eq_getElem?_getD, (show j < n by omega)]
  rw [e]; exact this
theorem wr_clear {w : World} {g : Nat} {ys : List Int} (h : Wr w g ys) (n m : Nat) : Wr (w.setCells g n (List.replicate m (.int .i64 0))) g (ys.take n) := by
  intro j hj
  have h2 := wr_part h n j hj
  rw [List.length_take] at hj
  rw [World.cell?_setCells_out g _ n w ⟨g, j, none⟩ (fun _ _ => .inl (by show j < n; omega)), World.frozen?_setCells]
  exact h2
theorem only_setCells {w : World} {g : Nat} : ∀ (vs : List Value) (o : Nat) (w' : World), Only g w w' → Only g w (w'.setCells g o vs)
  | [], _, _, h => h
  | v :: vs, o, w', h => only_setCells vs (o + 1) _ (h.put1 o v)
set_option maxRecDepth 100000 in
set_option maxHeartbeats 2000000 in
theorem dl_any (g cap : Nat) (zs : List Int) (w : World) (h : Wr w g zs) (hg : g < w.heap.size) (hm : zs.length ≤ 1048576) (hcap : zs.length ≤ cap) :
    Calls Tryz.prog 151 #[.slice (some ⟨g, 0, none⟩) zs.length cap, .func (.func 153) #[] #[]] w fun e w' =>
      e = .returned (.slice (some ⟨g, 0, none⟩) (knl zs).length cap) ∧ Only g w w' ∧ Wr w' g (knl zs) := by
  go_enter Tryz.func151, Tryz.ntmps151
  go_wp2_with fail
  refine (ix_any _ cap zs w h.ls hm).mono ?_
  rintro e w1 ⟨hh, rfl⟩
  rcases hh with ⟨i, hi, hx, hb, rfl⟩ | ⟨hb, rfl⟩
  · have hk0 : knl (zs.take (i + 1)) = zs.take i := by
      rw [knl_take zs hi, hx]
      have e1 : knl (zs.take i) = zs.take i := knl_all (fun j hj => by
        rw [List.length_take] at hj
        have := hb j (by omega)
        simpa [List.getD_eq_getElem?_getD, List.getElem?_take, (show j < i by omega)] using this)
      rw [e1]; simp [knl]
    have HK0 := Lib.hid hk0
    have HW0 := Lib.hid h
    clear hx hb hk0 h
    go_wp2_with fail
    go_loopw [5, 6] (fun p q wr => ∃ (k n : Nat) (ys : List Int), k ≤ zs.length ∧ n < k ∧ p = .int .i64 n ∧ q = .int .i64 k ∧ Hid (ys.length = zs.length) ∧ Hid (ys.take n = knl (zs.take k)) ∧ Hid (∀ j, k ≤ j → ys.getD j 0 = zs.getD j 0) ∧ Hid (Wr wr g ys) ∧ Only g w wr) (fun _ q _ => zs.length - (intOf q).toNat)
    case atStart => exact ⟨i + 1, i, zs, by omega, by omega, rfl, by go_num, Lib.hid rfl, Lib.hid HK0.out.symm, Lib.hid (fun _ _ => rfl), HW0, Only.refl _ _⟩
    case round =>
      obtain ⟨k, n, ys, hk, hn, rfl, rfl, HL, HT, HR, HW, hO⟩ := hrel
      by_cases hlt : k < zs.length
      · obtain ⟨ck, fk⟩ := HW.out k (by rw [HL.out]; exact hlt)
        obtain ⟨cn, fn⟩ := HW.out n (by rw [HL.out]; omega)
        rw [HR.out k (Nat.le_refl _)] at ck
        have HS0 := Lib.hid (knl_take zs hlt)
        have HR2 : Hid (∀ j, k + 1 ≤ j → ys.getD j 0 = zs.getD j 0) := Lib.hid (fun j hj => HR.out j (by omega))
        by_cases hx : zs.getD k 0 = -9999
        · have HS : Hid (ys.take n = knl (zs.take (k + 1))) := Lib.hid (by rw [HT.out, HS0.out, hx]; simp [knl])
          rw [hx] at ck
          clear hx HS0 HR
          generalize ys.getD n 0 = y at cn
          go_wp2_with fail
          refine (kv1_any _ _).mono ?_
          rintro e w' ⟨rfl, rfl⟩
          go_wp2
          refine ⟨?_, ?measure⟩
          (repeat apply Exists.intro)
          refine ⟨?rel, rfl⟩
          case rel => exact ⟨k + 1, n, ys, by omega, by omega, rfl, by go_num, HL, HS, HR2, HW, hO⟩
          case measure => simp [intOf]; omega
        · have hx2 : (zs.getD k 0 == -9999) = false := beq_eq_false_iff_ne.2 hx
          have hx3 : (zs.getD k 0 != -9999) = true := bne_iff_ne.2 hx
          have HS : Hid ((ys.set n (zs.getD k 0)).take (n + 1) = knl (zs.take (k + 1))) := Lib.hid (by
            rw [set_take_snoc (by rw [HL.out]; omega), HT.out, HS0.out]
            simp only [knl, List.filter_cons, hx3, List.filter_nil]; rfl)
          have HR3 : Hid (∀ j, k + 1 ≤ j → (ys.set n (zs.getD k 0)).getD j 0 = zs.getD j 0) := Lib.hid (fun j hj => by
            rw [← HR.out j (by omega)]
            simp [List.getD_eq_getElem?_getD, List.getElem?_set_ne (show n ≠ j by omega)])
          have HL2 : Hid ((ys.set n (zs.getD k 0)).length = zs.length) := Lib.hid (by rw [List.length_set]; exact HL.out)
          have HW2 : Hid (Wr (wr.setCell ⟨g, n, none⟩ (.int .i64 (zs.getD k 0))) g (ys.set n (zs.getD k 0))) := Lib.hid (HW.out.set (by rw [HL.out]; omega) _)
          clear hx HS0 HR hx3
          generalize ys.set n (zs.getD k 0) = ys2 at *
          generalize zs.getD k 0 = x at *
          generalize ys.getD n 0 = y at cn
          go_wp2_with fail
          refine (kv1_any _ _).mono ?_
          rintro e w' ⟨rfl, rfl⟩
          go_wp2
          refine ⟨?_, ?measure⟩
          (repeat apply Exists.intro)
          refine ⟨?rel, rfl⟩
          case rel => exact ⟨k + 1, n + 1, ys2, by omega, by omega, by go_num, by go_num, HL2, HS, HR3, HW2, hO.put1 _ _⟩
          case measure => simp [intOf]; omega
      · obtain rfl : k = zs.length := by omega
        have HT2 : Hid (ys.take n = knl zs) := Lib.hid (by rw [HT.out, List.take_length])
        have HN : Hid (n = (knl zs).length) := Lib.hid (by rw [← HT2.out, List.length_take, HL.out]; omega)
        have hcl : ∀ ty, (Builtin.clear_ #[64] ty #[.slice (some ⟨g, n, none⟩) (zs.length - n) (cap - n)]).run Tryz.prog wr = .ok (.tuple #[]) (wr.setCells g n (List.replicate (zs.length - n) (.int .i64 0))) :=
          fun ty => Lib.run_clear_slice wr 64 3 ty (.int .i64 0) Tryz.underlying64 zeroI rfl rfl g n (zs.length - n) (cap - n) (by omega) (fun j hj => by rw [(HW.out (n + j) (by rw [HL.out]; omega)).1]; rfl) (fun j hj => (HW.out (n + j) (by rw [HL.out]; omega)).2)
        have hcn : ¬ cap = n := by omega
        have hcn2 : (cap == n) = false := beq_eq_false_iff_ne.2 hcn
        clear HT
        go_wp2_with (simp only [hcl])
        go_ret
        refine ⟨?_, only_setCells _ _ _ hO, ?_⟩
        · rw [← HN.out]; rfl
        · rw [← HT2.out]; exact wr_clear HW.out n _
  · have HE := Lib.hid (knl_all hb)
    have HW0 := Lib.hid h
    clear hb h
    go_wp2
    go_ret
    refine ⟨?_, Only.refl _ _, by rw [HE.out]; exact HW0.out⟩
    rw [HE.out]; rfl
set_option maxHeartbeats 1000000 in
theorem kvs_any (a : Option Addr) (cap : Nat) (zs : List Int) (w : World) (h : Ls w a zs) (h0 : 0 < zs.length) (hm : zs.length ≤ 1048576) :
    Calls Tryz.prog 145 #[.slice a zs.length cap] w (MadeL (knl zs) w) := by
  go_enter Tryz.func145, Tryz.ntmps145
  go_wp2_with fail
  refine (cloneI_any a cap zs w h h0 hm).mono ?_
  rintro e w1 ⟨g, c, rfl, hc, hg, hl, hW, k1⟩
  go_wp2_with fail
  refine (dl_any g c zs w1 hW hl hm hc).mono ?_
  rintro e w2 ⟨rfl, ho, hW2⟩
  have hk : (knl zs).length ≤ zs.length := List.length_filter_le _ _
  have hs : w1.heap.size ≤ w2.heap.size := ho.size
  go_wp2
  go_ret
  exact ⟨g, c, rfl, by omega, hW2, hg, by omega, k1.trans' ho hg⟩
end Go.Proofs.YtnemdnidlbekbaaGreatDoor
namespace Go.Proofs.YtnemdnidlbekbaaGreatDoor
open Go.RowKit

theorem wpStill_hide {P : Program} {ops : Array Oper} {w : World} {Q : Act → Prop} {l : List Oper} {a : Act} (h : ∀ T : Act → Prop, Hid (∀ a, Q a → T a) → wpStill P ops w T l a) : wpStill P ops w Q l a :=
  h Q (Lib.hid (fun _ h => h))
end Go.Proofs.YtnemdnidlbekbaaGreatDoor
namespace Go.Proofs.YtnemdnidlbekbaaGreatDoor
open Go.RowKit
set_option linter.unusedVariables false

set_option maxHeartbeats 400000 in
theorem tk_add (B : Nat) (b t x : Int) (w : World) (c0 : w.cell? ⟨B, 0, none⟩ = some (.int .i64 b)) (c1 : w.cell? ⟨B, 1, none⟩ = some (.int .i64 t)) (f1 : w.frozen? ⟨B, 1, none⟩ = false)
    (t0 : -1000000 ≤ t) (t1 : t ≤ 1000000) (x0 : -12000 ≤ x) (x1 : x ≤ 12000) (b0 : -12000 ≤ b) (b1 : b ≤ 12000) :
    Calls Tryz.prog 129 #[.pointer (some ⟨B, 0, none⟩), .int .i64 x] w fun e w' => e = .returned (.tuple #[]) ∧ w'.cell? ⟨B, 0, none⟩ = some (.int .i64 b) ∧ w'.cell? ⟨B, 1, none⟩ = some (.int .i64 (t + x)) ∧ w'.frozen? ⟨B, 1, none⟩ = false ∧ Only B w w' := by
  go_enter Tryz.func129, Tryz.ntmps129
  go_wp2
  go_end0
  refine ⟨rfl, ?_, ?_, ?_, (Only.refl B w).put1 1 _⟩
  all_goals (go_simp; done)
set_option maxRecDepth 100000 in
set_option maxHeartbeats 1000000 in
theorem ty_add (a : Option Addr) (cap : Nat) (zs : List Int) (b : Int) (w : World) (h : Ls w a zs) (hq : sqB zs = true) (b0 : -12000 ≤ b) (b1 : b ≤ 12000) :
    Calls Tryz.prog 128 #[.slice a zs.length cap, .int .i64 b, .func (.func 129) #[] #[]] w fun e w' => e = .returned (.int .i64 (isum (knl zs))) ∧ Keep w w' := by
  obtain ⟨_, hl1, hl12⟩ := sq_facts hq
  have hkl := knl_le zs
  have HB := Lib.hid (knl_bd hq)
  have HK := Lib.hid (fun W (k : Keep w W) => kvs_any a cap zs W (h.keep k) (by omega) (by omega))
  clear hq h
  generalize knl zs = L at *
  have hL12 : L.length ≤ 12 := by omega
  have HT : Hid (∀ k, k ≤ L.length → -300000 ≤ isum (L.take k) ∧ isum (L.take k) ≤ 300000) := Lib.hid (fun k hk => by
    have hb : ∀ x ∈ L.take k, -999 ≤ x ∧ x ≤ 10999 := fun x hx => HB.out x (List.mem_of_mem_take hx)
    have hl : (L.take k).length ≤ 12 := by rw [List.length_take]; omega
    have := isum_bd (L := L.take k) fun x hx => by have := hb x hx; omega
    omega)
  go_enter Tryz.func128, Tryz.ntmps128
  go_wp2_with fail
  refine (HK.out _ ((Keep.refl w).alloc _)).mono ?_
  rintro e w2 ⟨g, c, rfl, hc, hW, hg, hl, k2⟩
  clear HK
  have hBg : w.heap.size < g := by simp at hg; omega
  have hB2 : w.heap.size < w2.heap.size := by omega
  have c0 : w2.cell? ⟨w.heap.size, 0, none⟩ = some (.int .i64 b) := k2.new 0 rfl
  have c1 : w2.cell? ⟨w.heap.size, 1, none⟩ = some (.int .i64 0) := k2.new 1 rfl
  have f1 : w2.frozen? ⟨w.heap.size, 1, none⟩ = false := k2.fresh 1
  have K2 : Keep w w2 := ((Keep.refl w).alloc _).trans k2
  go_wp2_with fail
  go_loopw [15] (fun i wr => ∃ k : Nat, k ≤ L.length ∧ i = .int .i64 k ∧ wr.cell? ⟨w.heap.size, 0, none⟩ = some (.int .i64 b) ∧ wr.cell? ⟨w.heap.size, 1, none⟩ = some (.int .i64 (isum (L.take k))) ∧ wr.frozen? ⟨w.heap.size, 1, none⟩ = false ∧ Only w.heap.size w2 wr) (fun i _ => L.length - (intOf i).toNat)
  case atStart => exact ⟨0, by omega, rfl, c0, c1, f1, Only.refl _ _⟩
  case round =>
    obtain ⟨k, hk, rfl, d0, d1, g1, hO⟩ := hrel
    by_cases hlt : k < L.length
    · have cz : wr.cell? ⟨g, k, none⟩ = some (.int .i64 (L.getD k 0)) := (hO.cell g k hl (by omega)).trans (hW k hlt).1
      have HS := Lib.hid (show isum (L.take (k + 1)) = isum (L.take k) + L.getD k 0 by
        have e : L.take (k + 1) = L.take k ++ [L.getD k 0] := by
          rw [List.take_succ_eq_append_getElem hlt]; simp [List.getD_eq_getElem?_getD, hlt]
        rw [e]
        rw [isum_app, isum, isum]; omega)
      obtain ⟨x0, x1⟩ := HB.out _ (getD_mem hlt)
      obtain ⟨t0, t1⟩ := HT.out k hk
      generalize L.getD k 0 = x at cz HS x0 x1
      obtain ⟨t, ht⟩ : ∃ t, isum (L.take k) = t := ⟨_, rfl⟩
      rw [ht] at d1 HS t0 t1
      clear ht
      have k0 : (0 : Int) ≤ (k : Int) := by omega
      have kz : (k : Int) < (L.length : Int) := by omega
      go_wp2_with fail
      refine (tk_add w.heap.size b t x _ d0 d1 g1 (by omega) (by omega) (by omega) (by omega) b0 b1).mono ?_
      rintro e w5 ⟨rfl, e0, e1, e2, ho5⟩
      go_wp2
      go_roundw
      case rel => exact ⟨k + 1, by omega, by go_num, e0, by rw [HS.out]; exact e1, e2, hO.trans ho5⟩
      case measure => simp [intOf]; omega
    · obtain rfl : k = L.length := by omega
      rw [List.take_length] at d1
      go_wp2
      go_ret
      exact ⟨rfl, K2.trans' hO (Nat.le_refl _)⟩
end Go.Proofs.YtnemdnidlbekbaaGreatDoor
namespace Go.Proofs.YtnemdnidlbekbaaGreatDoor
open Go.RowKit
set_option linter.unusedVariables false

theorem knl_takeE (zs : List Int) {k : Nat} (h : k < zs.length) : knl (zs.take (k + 1)) = knl (zs.take k) ++ knl [zs.getD k 0] := by
  rw [List.take_succ_eq_append_getElem h, knl, knl, knl, List.filter_append]
  simp [List.getD_eq_getElem?_getD, h]
theorem sk_len {zs : List Int} (h : sqB zs = true) : sk zs = ((knl zs).length : Int) := by rw [sk_yes h, knN_all]
set_option maxRecDepth 100000 in
set_option maxHeartbeats 1000000 in
theorem me_impl (a : Option Addr) (cap : Nat) (zs : List Int) (gp : Int) (w : World) (h : Ls w a zs) (hm : zs.length ≤ 1048576) :
    Calls Tryz.prog 105 #[.slice a zs.length cap, .int .i64 gp] w fun e w' => e = .returned (.tuple #[.int .i64 (meV zs gp), .bool (meB zs gp)]) ∧ Keep w w' := by
  have HN0 : ∀ hb : meB zs gp = false, Ending.returned (.tuple #[.int .i64 0, .bool false]) = .returned (.tuple #[.int .i64 (meV zs gp), .bool (meB zs gp)]) := fun hb => by rw [meV_no hb, hb]
  have HN := Lib.hid HN0
  clear HN0
  go_enter Tryz.func105, Tryz.ntmps105
  go_wp2_with fail
  refine (sk_impl a cap zs w h (by omega)).mono ?_
  rintro e w1 ⟨rfl, rfl⟩
  rcases Bool.eq_false_or_eq_true (sqB zs) with hs | hs
  case' inr =>
    have HB := Lib.hid (meB_sq (g := gp) hs)
    rw [sk_no hs]
    go_wp2
    go_ret2
    exact ⟨HN.out HB.out, Keep.refl _⟩
  have hl := (sq_facts hs).2
  have hkl := knl_le zs
  rw [sk_len hs]
  by_cases h0 : (knl zs).length < 1
  · have HB := Lib.hid (meB_none (g := gp) (show (knl zs).length = 0 by omega))
    generalize knl zs = L at *
    have d : decide ((L.length : Int) < 1) = true := decide_eq_true (by omega)
    clear hs
    go_wp2
    go_ret2
    exact ⟨HN.out HB.out, Keep.refl _⟩
  by_cases hg : gp < (zs.length : Int) - ((knl zs).length : Int)
  · have HB := Lib.hid (meB_gaps hg)
    generalize knl zs = L at *
    have d : decide ((L.length : Int) < 1) = false := decide_eq_false (by omega)
    have d2 : decide (gp < (zs.length : Int) - (L.length : Int)) = true := decide_eq_true hg
    clear hs
    go_wp2
    go_ret2
    exact ⟨HN.out HB.out, Keep.refl _⟩
  have hb := meB_mk hs (show 0 < (knl zs).length by omega) (show (zs.length : Int) - ((knl zs).length : Int) ≤ gp by omega)
  have HB := Lib.hid hb
  have HR := Lib.hid (me_ro hb)
  have HT := Lib.hid (fun W (k : Keep w W) => ty_add a cap zs 0 W (h.keep k) hs (by omega) (by omega))
  clear hb hs
  have d : decide (((knl zs).length : Int) < 1) = false := decide_eq_false (by omega)
  have d2 : decide (gp < (zs.length : Int) - ((knl zs).length : Int)) = false := decide_eq_false (by omega)
  generalize isum (knl zs) = s at *
  generalize (knl zs).length = m at *
  go_wp2_with fail
  refine (HT.out _ (Keep.refl _)).mono ?_
  rintro e w2 ⟨rfl, k2⟩
  go_wp2_with fail
  refine (ro_impl s (m : Int) _).mono ?_
  rintro e w3 ⟨rfl, rfl⟩
  go_wp2
  go_ret2
  exact ⟨ret2 HR.out.2 (HR.out.1.trans HB.out.symm), k2⟩
set_option maxRecDepth 100000 in
set_option maxHeartbeats 1000000 in
theorem me_spec (a : Option Addr) (cap : Nat) (zs : List Int) (gp : Int) (w : World) (h : Ls w a zs) (hm : zs.length ≤ 1048576) :
    Calls Tryz.prog 85 #[.slice a zs.length cap, .int .i64 gp] w fun e w' => e = .returned (.tuple #[.int .i64 (meV zs gp), .bool (meB zs gp)]) ∧ Keep w w' := by
  have HN0 : ∀ hb : meB zs gp = false, Ending.returned (.tuple #[.int .i64 0, .bool false]) = .returned (.tuple #[.int .i64 (meV zs gp), .bool (meB zs gp)]) := fun hb => by rw [meV_no hb, hb]
  have HN := Lib.hid HN0
  clear HN0
  have HQ := Lib.hid (sqv_spec a cap zs w h (by omega))
  rcases Bool.eq_false_or_eq_true (sqB zs) with hs | hs
  case' inr =>
    have HB := Lib.hid (meB_sq (g := gp) hs)
    rw [hs] at HQ
    clear hs
    go_enter Tryz.func85, Tryz.ntmps85
    go_wp2_with fail
    refine HQ.out.mono ?_
    rintro e w1 ⟨rfl, rfl⟩
    go_wp2
    go_ret2
    exact ⟨HN.out HB.out, Keep.refl _⟩
  have hl := (sq_facts hs).2
  have hkl := knl_le zs
  have HK := Lib.hid (fun W (k : Keep w W) => sk_spec a cap zs W (h.keep k) (by omega))
  rw [sk_len hs] at HK
  rw [hs] at HQ
  by_cases hg : gp < (zs.length : Int) - ((knl zs).length : Int)
  · have HB := Lib.hid (meB_gaps hg)
    generalize knl zs = L at *
    have d2 : decide (gp < (zs.length : Int) - (L.length : Int)) = true := decide_eq_true hg
    clear hs
    go_enter Tryz.func85, Tryz.ntmps85
    go_wp2_with fail
    refine HQ.out.mono ?_
    rintro e w1 ⟨rfl, rfl⟩
    go_wp2_with fail
    refine (HK.out _ (Keep.refl _)).mono ?_
    rintro e w1 ⟨rfl, rfl⟩
    go_wp2
    go_ret2
    exact ⟨HN.out HB.out, Keep.refl _⟩
  have d2 : decide (gp < (zs.length : Int) - ((knl zs).length : Int)) = false := decide_eq_false (by omega)
  by_cases h0 : (knl zs).length < 1
  · have HB := Lib.hid (meB_none (g := gp) (show (knl zs).length = 0 by omega))
    generalize knl zs = L at *
    have d : ((L.length : Int) == 0) = true := beq_iff_eq.2 (by omega)
    clear hs
    go_enter Tryz.func85, Tryz.ntmps85
    go_wp2_with fail
    refine HQ.out.mono ?_
    rintro e w1 ⟨rfl, rfl⟩
    go_wp2_with fail
    refine (HK.out _ (Keep.refl _)).mono ?_
    rintro e w1 ⟨rfl, rfl⟩
    go_wp2_with fail
    refine (HK.out _ (Keep.refl _)).mono ?_
    rintro e w1 ⟨rfl, rfl⟩
    go_wp2
    go_ret2
    exact ⟨HN.out HB.out, Keep.refl _⟩
  have hb := meB_mk hs (show 0 < (knl zs).length by omega) (show (zs.length : Int) - ((knl zs).length : Int) ≤ gp by omega)
  have HB := Lib.hid hb
  have HV := Lib.hid (meV_yes hb)
  have HKn := Lib.hid (fun W (k : Keep w W) => known2_any a cap zs W (h.keep k) hm)
  have HBd := Lib.hid (knl_bd hs)
  have HT : Hid (∀ k, k ≤ (knl zs).length → -300000 ≤ isum ((knl zs).take k) ∧ isum ((knl zs).take k) ≤ 300000) := Lib.hid (fun k hk => by
    have := isum_bd (L := (knl zs).take k) fun x hx => by have := HBd.out x (List.mem_of_mem_take hx); omega
    rw [List.length_take, Nat.min_eq_left hk] at this
    omega)
  clear hb hs
  have d : (((knl zs).length : Int) == 0) = false := beq_eq_false_iff_ne.2 (by omega)
  generalize meV zs gp = v at *
  generalize knl zs = L at *
  go_enter Tryz.func85, Tryz.ntmps85
  go_wp2_with fail
  refine HQ.out.mono ?_
  rintro e w1 ⟨rfl, rfl⟩
  go_wp2_with fail
  refine (HK.out _ (Keep.refl _)).mono ?_
  rintro e w1 ⟨rfl, rfl⟩
  go_wp2_with fail
  refine (HK.out _ (Keep.refl _)).mono ?_
  rintro e w1 ⟨rfl, rfl⟩
  go_wp2_with fail
  refine (HKn.out _ (Keep.refl _)).mono ?_
  rintro e w2 ⟨g, c, rfl, hc, hW, hg2, hl2, k2⟩
  clear HKn HK HQ
  go_wp2_with fail
  go_loop [6, 8] (fun s i => ∃ k : Nat, k ≤ L.length ∧ i = .int .i64 k ∧ s = .int .i64 (isum (L.take k))) (fun _ i => L.length - (intOf i).toNat)
  case atStart => exact ⟨0, by omega, rfl, rfl⟩
  case round =>
    obtain ⟨k, hk, rfl, rfl⟩ := hrel
    by_cases hlt : k < L.length
    · obtain ⟨cz, _⟩ := hW k hlt
      have HS := Lib.hid (isum_take hlt)
      obtain ⟨x0, x1⟩ := HBd.out _ (getD_mem hlt)
      obtain ⟨t0, t1⟩ := HT.out k hk
      have k0 : (0 : Int) ≤ (k : Int) := by omega
      have kz : (k : Int) < (L.length : Int) := by omega
      generalize L.getD k 0 = x at *
      generalize isum (L.take k) = s at *
      go_wp2
      go_round
      case rel => exact ⟨k + 1, by omega, by go_num, by rw [HS.out]⟩
      case measure => simp [intOf]; omega
    · obtain rfl : k = L.length := by omega
      obtain ⟨t0, t1⟩ := HT.out L.length (Nat.le_refl _)
      rw [List.take_length] at *
      go_wp2_with fail
      refine (l4r_any (isum L) (L.length : Int) _ (by omega) (by omega) (by omega) (by omega)).mono ?_
      rintro e w3 ⟨rfl, rfl⟩
      go_wp2
      go_ret2
      exact ⟨ret2 HV.out.symm HB.out.symm, k2⟩
end Go.Proofs.YtnemdnidlbekbaaGreatDoor
namespace Go.Proofs.YtnemdnidlbekbaaGreatDoor
open Go.RowKit
set_option linter.unusedVariables false

/-- A text is answered. -/
def AnsP (l : List UInt8) (w : World) (e : Ending) (w' : World) : Prop := ∃ s : ByteArray, e = .returned (.string s) ∧ s.data.toList = l ∧ Keep w w'
theorem akL_len (rs : List R4) (ps : List (List UInt8)) : (akL rs ps).length ≤ 12 := by
  unfold akL
  cases h : ssOk rs (rs.length : Nat) (wn ps 1) (wn ps 2) (wn ps 3) (wn ps 4)
  · rw [ssL_no h]; simp
  · have h2 := h
    simp only [ssOk, Bool.and_eq_true] at h2
    obtain ⟨_, _, _, m, hm0, _, hm⟩ := saB_facts h2.2
    have e : ssL rs (rs.length : Nat) (wn ps 1) (wn ps 2) (wn ps 3) (wn ps 4) = serN rs rs.length (wn ps 1) (wn ps 2) (wn ps 3) m := by
      unfold ssL; rw [h, if_pos rfl, hm0]; simp
    rw [e, serN_len]; exact hm
theorem akL_bd {rs : List R4} {ps : List (List UInt8)} (h : akOk rs ps = true) : ∀ i, i < (akL rs ps).length → -99999 ≤ (akL rs ps).getD i 0 ∧ (akL rs ps).getD i 0 ≤ 99999 := by
  intro i hi
  have h2 := h
  simp only [akOk, ssOk, Bool.and_eq_true] at h2
  obtain ⟨hst, _, m, hm1, hm2⟩ := vrB_facts h2.1
  have e : akL rs ps = serN rs rs.length (wn ps 1) (wn ps 2) (wn ps 3) (wn ps 4).toNat := by
    have h3 : ssOk rs (rs.length : Nat) (wn ps 1) (wn ps 2) (wn ps 3) (wn ps 4) = true := h
    unfold akL ssL; rw [if_pos h3]; simp
  rw [e] at hi ⊢
  rw [serN_len] at hi
  have hb := vN_bd (stB_facts hst).1 (wn ps 1) ((wn ps 3) + (i : Int)) (wn ps 2) rs.length (Nat.le_refl _)
  have e2 : (serN rs rs.length (wn ps 1) (wn ps 2) (wn ps 3) (wn ps 4).toNat).getD i 0 = vN rs (wn ps 1) (wn ps 3 + (i : Int)) (wn ps 2) rs.length := by
    simp [serN, List.getD_eq_getElem?_getD, hi]
  rw [e2]; omega
theorem mz_bd {zs : List Int} {g : Int} (h : meB zs g = true) : -999 ≤ meV zs g ∧ meV zs g ≤ 10999 := by
  obtain ⟨h1, h2, _⟩ := meB_facts h
  rw [meV_yes h]
  have hk : ∀ x ∈ knl zs, -999 ≤ x ∧ x ≤ 10999 := fun x hx => by
    rw [knl, List.mem_filter] at hx
    have := qB_bd (List.all_eq_true.1 (sq_facts h1).1 x hx.1)
    have h3 : x ≠ -9999 := by simpa using hx.2
    omega
  exact rq_between (by omega) (isum_ge fun x hx => (hk x hx).1) (isum_le fun x hx => (hk x hx).2)
set_option maxRecDepth 100000 in
set_option maxHeartbeats 4000000 in
theorem series_any (sp g c : Nat) (a : Option Addr) (cap : Nat) (rs : List R4) (bs : List ByteArray) (w : World) (T : Tabs w) (hc : w.cell? ⟨sp, 0, none⟩ = some (.slice a rs.length cap)) (h : Rs w a rs) (hrm : rs.length ≤ 1048576) (hrc : rs.length ≤ cap) (hS : Ss w g bs) (hm : bs.length ≤ 1048576) (hb : ∀ i, (bs.getD i ⟨#[]⟩).size ≤ 1048576) :
    Calls Tryz.prog 76 #[.pointer (some ⟨sp, 0, none⟩), .slice (some ⟨g, 0, none⟩) bs.length c] w (AnsP (if akOk rs (ws bs) then seT rs (ws bs) else sNo) w) := by
  have HA := Lib.hid (asked_any sp g c a cap rs bs w hc h hrm hrc hS hm hb)
  have HT := Lib.hid T
  clear T
  rcases Bool.eq_false_or_eq_true (akOk rs (ws bs)) with hk | hk
  case' inr =>
    have HL : Hid (akL rs (ws bs) = []) := Lib.hid (by unfold akL; exact ssL_no hk)
    unfold AkPost at HA
    rw [hk, HL.out] at HA
    rw [hk]
    go_enter Tryz.func76, Tryz.ntmps76
    go_wp2_with fail
    refine HA.out.mono ?_
    rintro e w1 ⟨a1, c1, rfl, _, k1⟩
    go_wp2
    go_ret
    exact ⟨_, rfl, rfl, k1⟩
  unfold AkPost at HA
  rw [hk] at HA
  rw [hk, if_pos rfl]
  have HB := Lib.hid (akL_bd hk)
  have hln := akL_len rs (ws bs)
  unfold seT
  go_enter Tryz.func76, Tryz.ntmps76
  go_wp2_with fail
  refine HA.out.mono ?_
  rintro e w1 ⟨a1, c1, rfl, hF, k1⟩
  go_wp2_with fail
  refine (listed_day _ a1 c1 (akL rs (ws bs)) w1 hF.ls (by omega) (HT.out.keep k1) (by decide) HB.out).mono ?_
  rintro e w2 ⟨⟨s, rfl, hs⟩, k2⟩
  have HS := Lib.hid hs
  clear hs
  go_wp2
  go_ret
  exact ⟨s, rfl, HS.out, k1.trans k2⟩
set_option maxRecDepth 100000 in
set_option maxHeartbeats 4000000 in
theorem mean_any (sp g c : Nat) (a : Option Addr) (cap : Nat) (rs : List R4) (bs : List ByteArray) (w : World) (T : Tabs w) (hc : w.cell? ⟨sp, 0, none⟩ = some (.slice a rs.length cap)) (h : Rs w a rs) (hrm : rs.length ≤ 1048576) (hrc : rs.length ≤ cap) (hS : Ss w g bs) (hm : bs.length ≤ 1048576) (hb : ∀ i, (bs.getD i ⟨#[]⟩).size ≤ 1048576) :
    Calls Tryz.prog 78 #[.pointer (some ⟨sp, 0, none⟩), .slice (some ⟨g, 0, none⟩) bs.length c] w (AnsP (if akOk rs (ws bs) then meT rs (ws bs) else sNo) w) := by
  have HA := Lib.hid (asked_any sp g c a cap rs bs w hc h hrm hrc hS hm hb)
  have HT := Lib.hid T
  clear T
  rcases Bool.eq_false_or_eq_true (akOk rs (ws bs)) with hk | hk
  case' inr =>
    have HL : Hid (akL rs (ws bs) = []) := Lib.hid (by unfold akL; exact ssL_no hk)
    unfold AkPost at HA
    rw [hk, HL.out] at HA
    rw [hk]
    go_enter Tryz.func78, Tryz.ntmps78
    go_wp2_with fail
    refine HA.out.mono ?_
    rintro e w1 ⟨a1, c1, rfl, _, k1⟩
    go_wp2
    go_ret
    exact ⟨_, rfl, rfl, k1⟩
  unfold AkPost at HA
  rw [hk] at HA
  rw [hk, if_pos rfl]
  have HB := Lib.hid (akL_bd hk)
  have hln := akL_len rs (ws bs)
  unfold meT
  have HN : Hid (∀ (W : World), Keep w W → Calls Tryz.prog 101 #[.slice (some ⟨g, 0, none⟩) bs.length c, .int .i64 5] W fun e w' => e = .returned (.int .i64 (wn (ws bs) 5)) ∧ Keep W w') := Lib.hid (fun W k => number_any g c bs 5 W (hS.keep k) hm (hb 5))
  clear hS hb h
  generalize wn (ws bs) 5 = n5 at *
  have HMe := Lib.hid (fun a1 c1 W (hW : Ls W a1 (akL rs (ws bs))) => me_impl a1 c1 (akL rs (ws bs)) n5 W hW (by omega))
  rcases Bool.eq_false_or_eq_true (meB (akL rs (ws bs)) n5) with hb2 | hb2
  case' inr =>
    rw [hb2] at HMe ⊢
    generalize meV (akL rs (ws bs)) n5 = v at HMe
    go_enter Tryz.func78, Tryz.ntmps78
    go_wp2_with fail
    refine HA.out.mono ?_
    rintro e w1 ⟨a1, c1, rfl, hF, k1⟩
    go_wp2_with fail
    refine (HN.out _ k1).mono ?_
    rintro e w2 ⟨rfl, k2⟩
    go_wp2_with fail
    refine (HMe.out a1 c1 _ (hF.keep k2).ls).mono ?_
    rintro e w3 ⟨rfl, k3⟩
    go_wp2
    go_ret
    exact ⟨_, rfl, rfl, (k1.trans k2).trans k3⟩
  obtain ⟨v1, v2⟩ := mz_bd hb2
  rw [hb2] at HMe ⊢
  generalize meV (akL rs (ws bs)) n5 = v at *
  have hus := dtx_ten (z := v) (by omega) (by omega)
  have t1 : ¬ 9223372036854775807 < 5 + (dtx v).size := by omega
  go_enter Tryz.func78, Tryz.ntmps78
  go_wp2_with fail
  refine HA.out.mono ?_
  rintro e w1 ⟨a1, c1, rfl, hF, k1⟩
  go_wp2_with fail
  refine (HN.out _ k1).mono ?_
  rintro e w2 ⟨rfl, k2⟩
  go_wp2_with fail
  refine (HMe.out a1 c1 _ (hF.keep k2).ls).mono ?_
  rintro e w3 ⟨rfl, k3⟩
  have k123 := (k1.trans k2).trans k3
  go_wp2_with fail
  refine (itoa_any v _ (HT.out.keep k123) (by omega) (by omega)).mono ?_
  rintro e w4 ⟨rfl, k4⟩
  go_wp2
  go_ret
  exact ⟨_, rfl, by simp [sMean, dtx], k123.trans k4⟩
end Go.Proofs.YtnemdnidlbekbaaGreatDoor
namespace Go.Proofs.YtnemdnidlbekbaaGreatDoor
open Go.RowKit
set_option linter.unusedVariables false

/-- Both ends of a range have at most five digits. -/
def r5Ok (r : R2) : Prop := (-99999 ≤ r.1 ∧ r.1 ≤ 99999) ∧ (-99999 ≤ r.2 ∧ r.2 ≤ 99999)
def rwB (r : R2) : ByteArray := if r.1 = r.2 then dtx r.1 else (dtx r.1 ++ ⟨#[58]⟩) ++ dtx r.2
theorem rwB_list (x y : Int) : (rwB (x, y)).data.toList = rgW (x, y) := by
  unfold rwB rgW
  split
  · rfl
  · simp [dtx]
theorem rwB_size {x y : Int} (h : r5Ok (x, y)) : (rwB (x, y)).size ≤ 15 := by
  obtain ⟨⟨h1, h2⟩, h3, h4⟩ := h
  have s1 := dtx_size (n := x) h1 h2
  have s2 := dtx_size (n := y) h3 h4
  unfold rwB
  split
  · exact Nat.le_trans s1 (by omega)
  · rw [ByteArray.size_append, ByteArray.size_append]
    have : (⟨#[58]⟩ : ByteArray).size = 1 := rfl
    show (dtx x).size + (⟨#[58]⟩ : ByteArray).size + (dtx y).size ≤ 15
    omega
set_option maxRecDepth 100000 in
set_option maxHeartbeats 4000000 in
theorem rw_any (x y : Int) (w : World) (T : Tabs w) (hb : r5Ok (x, y)) :
    Calls Tryz.prog 104 #[.agg #[.int .i64 x, .int .i64 y]] w fun e w' => e = .returned (.string (rwB (x, y))) ∧ Keep w w' := by
  obtain ⟨⟨h1, h2⟩, h3, h4⟩ := hb
  simp only at h1 h2 h3 h4
  have T1 := T.keep ((Keep.refl w).alloc (.cells #[.int .i64 x, .int .i64 y] 118))
  have HT := Lib.hid T1
  clear T T1
  by_cases hxy : x = y
  · subst hxy
    have e : rwB (x, x) = dtx x := by simp [rwB]
    rw [e]
    have HI := Lib.hid (fun W (k : Keep (w.alloc (.cells #[.int .i64 x, .int .i64 x] 118)) W) => itoa_any x W (HT.out.keep k) h1 h2)
    go_enter Tryz.func104, Tryz.ntmps104
    go_wp2_with fail
    refine (HI.out _ (Keep.refl _)).mono ?_
    rintro e w1 ⟨rfl, k1⟩
    go_wp2
    go_ret
    exact ⟨rfl, ((Keep.refl w).alloc _).trans k1⟩
  · have e : rwB (x, y) = (dtx x ++ ⟨#[58]⟩) ++ dtx y := by simp [rwB, hxy]
    rw [e]
    have HI := Lib.hid (fun W (k : Keep (w.alloc (.cells #[.int .i64 x, .int .i64 y] 118)) W) => itoa_any x W (HT.out.keep k) h1 h2)
    have HJ := Lib.hid (fun W (k : Keep (w.alloc (.cells #[.int .i64 x, .int .i64 y] 118)) W) => itoa_any y W (HT.out.keep k) h3 h4)
    have s1 := dtx_size (n := x) h1 h2
    have s2 := dtx_size (n := y) h3 h4
    have t1 : ¬ 9223372036854775807 < (dtx x).size + 1 := by omega
    have t2 : ¬ 9223372036854775807 < (dtx x).size + 1 + (dtx y).size := by omega
    have k4 : Keep w (w.alloc (.cells #[.int .i64 x, .int .i64 y] 118)) := (Keep.refl w).alloc _
    have y0 : (w.alloc (.cells #[.int .i64 x, .int .i64 y] 118)).cell? ⟨w.heap.size, 0, none⟩ = some (.int .i64 x) := World.cell?_alloc_new w _ _ 0
    have y1 : (w.alloc (.cells #[.int .i64 x, .int .i64 y] 118)).cell? ⟨w.heap.size, 1, none⟩ = some (.int .i64 y) := World.cell?_alloc_new w _ _ 1
    generalize dtx x = u at *
    generalize dtx y = v at *
    go_enter Tryz.func104, Tryz.ntmps104
    go_wp2_with fail
    generalize w.heap.size = bk at *
    generalize w.alloc (.cells #[.int .i64 x, .int .i64 y] 118) = w4 at *
    go_region_held3 (fun w' => Keep w4 w' ∧ w'.cell? ⟨bk, 0, none⟩ = some (.int .i64 x) ∧ w'.cell? ⟨bk, 1, none⟩ = some (.int .i64 y))
      ((go_split_ands; refine (fun hK => ⟨hK, hK.cell y0, hK.cell y1⟩ : Keep w4 _ → _) ?_; (repeat' (first | with_reducible assumption | with_reducible exact Keep.refl _ | with_reducible refine Keep.drew ?_ | with_reducible refine Keep.drewN ?_ _ | with_reducible refine Keep.trans ?_ hk))))
      ((first
        | (go_at_call 25; go_split_ands; (with_reducible refine (HI.out _ (by (repeat' (first | with_reducible assumption | with_reducible exact Keep.refl _ | with_reducible refine Keep.drew ?_ | with_reducible refine Keep.drewN ?_ _ | with_reducible refine Keep.trans ?_ hk)))).mono ?_); rintro e w' ⟨rfl, hk⟩; go_split_ands; have hK : Keep w4 w' := Keep.trans (by (repeat' (first | with_reducible assumption | with_reducible exact Keep.refl _ | with_reducible refine Keep.drew ?_ | with_reducible refine Keep.drewN ?_ _ | with_reducible refine Keep.trans ?_ hk))) hk)
        | (go_at_call 25; go_split_ands; (with_reducible refine (HJ.out _ (by (repeat' (first | with_reducible assumption | with_reducible exact Keep.refl _ | with_reducible refine Keep.drew ?_ | with_reducible refine Keep.drewN ?_ _ | with_reducible refine Keep.trans ?_ hk)))).mono ?_); rintro e w' ⟨rfl, hk⟩; go_split_ands; have hK : Keep w4 w' := Keep.trans (by (repeat' (first | with_reducible assumption | with_reducible exact Keep.refl _ | with_reducible refine Keep.drew ?_ | with_reducible refine Keep.drewN ?_ _ | with_reducible refine Keep.trans ?_ hk))) hk)))
    all_goals
      go_wp2
      go_ret
      exact ⟨rfl, k4.trans (by (repeat' (first | with_reducible assumption | with_reducible exact Keep.refl _ | with_reducible refine Keep.drew ?_ | with_reducible refine Keep.drewN ?_ _ | with_reducible refine Keep.trans ?_ hk)))⟩
set_option maxRecDepth 100000 in
set_option maxHeartbeats 2000000 in
theorem listed_rg (name : ByteArray) (a : Option Addr) (cap : Nat) (zs : List R2) (w : World) (h : Rr w a zs) (hm : zs.length ≤ 1048576) (T : Tabs w) (hn : name.size ≤ 1000) (hb : ∀ i, i < zs.length → r5Ok (zs.getD i u0)) :
    Calls Tryz.prog 103 #[.string name, .slice a zs.length cap, .func (.func 104) #[] #[]] w fun e w' => (∃ s : ByteArray, e = .returned (.string s) ∧ s.data.toList = lsT name.data.toList (zs.map rgW)) ∧ Keep w w' := by
  have HT := Lib.hid T
  have HB := Lib.hid hb
  clear T hb
  go_enter Tryz.func103, Tryz.ntmps103
  go_wp2_with fail
  go_loopw [7, 13] (fun l i wr => ∃ (k : Nat) (s : ByteArray), k ≤ zs.length ∧ i = .int .i64 k ∧ l = .string s ∧ Hid (s.data.toList = lsT name.data.toList ((zs.take k).map rgW)) ∧ s.size ≤ 1000 + 16 * k ∧ Keep w wr) (fun _ i _ => zs.length - (intOf i).toNat)
  case atStart => exact ⟨0, name, by omega, rfl, rfl, Lib.hid (by simp [lsT]), by omega, Keep.refl _⟩
  case round =>
    obtain ⟨k, s, hk, rfl, rfl, HS, hsz, hK⟩ := hrel
    by_cases hlt : k < zs.length
    · obtain ⟨b, off, rfl, hbb, ⟨c0, c1⟩⟩ := (h.keep hK).at_ hlt
      have h1 := HB.out k hlt
      have HN : Hid ((zs.take (k + 1)).map rgW = (zs.take k).map rgW ++ [rgW (zs.getD k u0)]) := Lib.hid (by
        rw [List.take_succ_eq_append_getElem hlt, List.map_append]
        simp [List.getD_eq_getElem?_getD, hlt])
      generalize zs.getD k u0 = z at *
      obtain ⟨x, y⟩ := z
      simp only [uL, uH] at c0 c1
      have HF := Lib.hid (fun W (kW : Keep w W) => rw_any x y W (HT.out.keep kW) h1)
      have HU : Hid ((rwB (x, y)).data.toList = rgW (x, y)) := Lib.hid (by exact rwB_list x y)
      have hus : (rwB (x, y)).size ≤ 15 := rwB_size h1
      generalize rwB (x, y) = u at HF HU hus
      have t1 : ¬ 9223372036854775807 < 1 + u.size := by omega
      have t2 : ¬ 9223372036854775807 < s.size + (1 + u.size) := by omega
      have q1 : (0 : Int) ≤ (k : Int) := by omega
      have q2 : (k : Int) < (zs.length : Int) := by omega
      clear h1
      go_wp2_with fail
      refine (HF.out _ (hK.alloc _)).mono ?_
      rintro e w1 ⟨rfl, k1⟩
      have HS2 : ∀ c : ByteArray, c.data.toList = [32] → Hid ((s ++ (c ++ u)).data.toList = lsT name.data.toList ((zs.take (k + 1)).map rgW)) := fun c hc => Lib.hid (by
        rw [HN.out, lsT_snoc, ← HS.out, ← HU.out]; simp [hc])
      have HS3 : ∀ c : ByteArray, c.data.toList = [32] → (s ++ (c ++ u)).size ≤ 1000 + 16 * (k + 1) := fun c hc => by
        have h9 : c.size = 1 := by
          have h8 : c.data.toList.length = 1 := by rw [hc]; rfl
          simpa using h8
        rw [ByteArray.size_append, ByteArray.size_append, h9]; omega
      go_wp2
      go_roundw
      case rel => exact ⟨k + 1, _, by omega, by go_num, rfl, HS2 _ rfl, HS3 _ rfl, (hK.alloc _).trans k1⟩
      case measure => simp [intOf]; omega
    · obtain rfl : k = zs.length := by omega
      have HF := Lib.hid (show s.data.toList = lsT name.data.toList (zs.map rgW) by have := HS.out; rwa [List.take_length] at this)
      go_wp2
      go_ret
      exact ⟨⟨s, rfl, HF.out⟩, hK⟩
end Go.Proofs.YtnemdnidlbekbaaGreatDoor
namespace Go.Proofs.YtnemdnidlbekbaaGreatDoor
open Go.RowKit
set_option linter.unusedVariables false

theorem gRL_bd {zs : List Int} {lo hi st : Int} (h : gOk zs lo hi st = true) : ∀ i, i < (gRL zs lo hi st).length → r5Ok ((gRL zs lo hi st).getD i u0) := by
  intro i hi'
  rw [gRL_yes h] at hi' ⊢
  rw [gRl_len] at hi'
  have h2 := h
  simp only [gOk, Bool.and_eq_true] at h2
  obtain ⟨_, ⟨b1, b2⟩, _⟩ := gaB_facts h2.1
  have e : (gRl zs lo hi st).getD i u0 = (gL zs lo st i, gH zs hi st i) := by
    simp [gRl, List.getD_eq_getElem?_getD, hi']
  have a1 := gLo_ge zs lo st i zs.length
  have a2 := gHi_le zs hi st i zs.length
  have a3 := gAll_at h2.2 hi'
  rw [e]
  unfold gL gH at *
  exact ⟨⟨by simp only; omega, by simp only; omega⟩, by simp only; omega, by simp only; omega⟩
theorem gRL_12 {zs : List Int} (h : zs.length ≤ 12) (lo hi st : Int) : (gRL zs lo hi st).length ≤ 12 := by
  unfold gRL
  split
  · rw [gRl_len]; exact h
  · simp
set_option maxRecDepth 100000 in
set_option maxHeartbeats 4000000 in
theorem fill_any (sp g c : Nat) (a : Option Addr) (cap : Nat) (rs : List R4) (bs : List ByteArray) (w : World) (T : Tabs w) (hc : w.cell? ⟨sp, 0, none⟩ = some (.slice a rs.length cap)) (h : Rs w a rs) (hrm : rs.length ≤ 1048576) (hrc : rs.length ≤ cap) (hS : Ss w g bs) (hm : bs.length ≤ 1048576) (hb : ∀ i, (bs.getD i ⟨#[]⟩).size ≤ 1048576) :
    Calls Tryz.prog 77 #[.pointer (some ⟨sp, 0, none⟩), .slice (some ⟨g, 0, none⟩) bs.length c] w (AnsP (if akOk rs (ws bs) then flT rs (ws bs) else sNo) w) := by
  have HA := Lib.hid (asked_any sp g c a cap rs bs w hc h hrm hrc hS hm hb)
  have HT := Lib.hid T
  clear T
  rcases Bool.eq_false_or_eq_true (akOk rs (ws bs)) with hk | hk
  case' inr =>
    have HL : Hid (akL rs (ws bs) = []) := Lib.hid (by unfold akL; exact ssL_no hk)
    unfold AkPost at HA
    rw [hk, HL.out] at HA
    rw [hk]
    go_enter Tryz.func77, Tryz.ntmps77
    go_wp2_with fail
    refine HA.out.mono ?_
    rintro e w1 ⟨a1, c1, rfl, _, k1⟩
    go_wp2
    go_ret
    exact ⟨_, rfl, rfl, k1⟩
  unfold AkPost at HA
  rw [hk] at HA
  rw [hk, if_pos rfl]
  have HB := Lib.hid (akL_bd hk)
  have hln := akL_len rs (ws bs)
  unfold flT
  have HN : ∀ i, Hid (∀ (W : World), Keep w W → Calls Tryz.prog 101 #[.slice (some ⟨g, 0, none⟩) bs.length c, .int .i64 (i : Nat)] W fun e w' => e = .returned (.int .i64 (wn (ws bs) i)) ∧ Keep W w') := fun i => Lib.hid (fun W k => number_any g c bs i W (hS.keep k) hm (hb i))
  have HN2 := HN 2
  have HN5 := HN 5
  clear hS hb h HN
  generalize wn (ws bs) 5 = n5 at *
  generalize wn (ws bs) 2 = n2 at *
  have HFi := Lib.hid (fun a1 c1 W (hW : Ls W a1 (akL rs (ws bs))) => fi_impl a1 c1 (akL rs (ws bs)) (kLo n2) (kHi n2) n5 W hW (by omega))
  have HGl := Lib.hid (fun h => gRL_bd (zs := akL rs (ws bs)) (lo := kLo n2) (hi := kHi n2) (st := n5) h)
  have hgl := gRL_12 hln (kLo n2) (kHi n2) n5
  have HKl := Lib.hid (fun W => kl_impl n2 W)
  unfold GpPost at HFi
  generalize gRL (akL rs (ws bs)) (kLo n2) (kHi n2) n5 = L at *
  rcases Bool.eq_false_or_eq_true (gOk (akL rs (ws bs)) (kLo n2) (kHi n2) n5) with hg | hg
  case' inr =>
    rw [hg] at HFi ⊢
    generalize kLo n2 = lo at *
    generalize kHi n2 = hi at *
    generalize kOk n2 = ok at *
    go_enter Tryz.func77, Tryz.ntmps77
    go_wp2_with fail
    refine HA.out.mono ?_
    rintro e w1 ⟨a1, c1, rfl, hF, k1⟩
    go_wp2_with fail
    refine (HN2.out _ k1).mono ?_
    rintro e w2 ⟨rfl, k2⟩
    go_wp2_with fail
    refine (HKl.out _).mono ?_
    rintro e w3 ⟨rfl, rfl⟩
    go_wp2_with fail
    refine (HN5.out _ (k1.trans k2)).mono ?_
    rintro e w4 ⟨rfl, k4⟩
    go_wp2_with fail
    refine (HFi.out a1 c1 _ ((hF.keep k2).keep k4).ls).mono ?_
    rintro e w5 ⟨a5, c5, rfl, _, _, k5⟩
    go_wp2
    go_ret
    exact ⟨_, rfl, rfl, ((k1.trans k2).trans k4).trans k5⟩
  have HGb := Lib.hid (HGl.out hg)
  rw [hg, if_pos rfl]
  rw [hg] at HFi
  clear HGl
  generalize kLo n2 = lo at *
  generalize kHi n2 = hi at *
  generalize kOk n2 = ok at *
  go_enter Tryz.func77, Tryz.ntmps77
  go_wp2_with fail
  refine HA.out.mono ?_
  rintro e w1 ⟨a1, c1, rfl, hF, k1⟩
  go_wp2_with fail
  refine (HN2.out _ k1).mono ?_
  rintro e w2 ⟨rfl, k2⟩
  go_wp2_with fail
  refine (HKl.out _).mono ?_
  rintro e w3 ⟨rfl, rfl⟩
  go_wp2_with fail
  refine (HN5.out _ (k1.trans k2)).mono ?_
  rintro e w4 ⟨rfl, k4⟩
  go_wp2_with fail
  refine (HFi.out a1 c1 _ ((hF.keep k2).keep k4).ls).mono ?_
  rintro e w5 ⟨a5, c5, rfl, _, hF5, k5⟩
  have K5 := ((k1.trans k2).trans k4).trans k5
  have hR := hF5.rr
  clear hF5
  go_wp2_with fail
  refine (listed_rg _ a5 c5 L w5 hR (by omega) (HT.out.keep K5) (by decide) HGb.out).mono ?_
  rintro e w6 ⟨⟨s, rfl, hs⟩, k6⟩
  have HS := Lib.hid hs
  clear hs
  go_wp2
  go_ret
  exact ⟨s, rfl, HS.out, K5.trans k6⟩
end Go.Proofs.YtnemdnidlbekbaaGreatDoor
namespace Go.Proofs.YtnemdnidlbekbaaGreatDoor
open Go.RowKit
set_option linter.unusedVariables false

theorem lsT_bd (name : List UInt8) (m : Nat) : ∀ ws : List (List UInt8), (∀ u ∈ ws, u.length ≤ m) → (lsT name ws).length ≤ name.length + ws.length * (m + 1)
  | [], _ => by simp [lsT]
  | u :: ws, h => by
    have h1 := lsT_bd name m ws (fun x hx => h x (List.mem_cons_of_mem _ hx))
    have h2 := h u (by simp)
    have e : (u :: ws).length * (m + 1) = ws.length * (m + 1) + (m + 1) := by rw [List.length_cons, Nat.add_mul, Nat.one_mul]
    rw [e]
    simp only [lsT, List.length_append, List.flatMap_cons, List.length_cons] at h1 ⊢
    omega
theorem itoa_ten {z : Int} (h0 : -99999 ≤ z) (h1 : z ≤ 99999) : (Lib.itoa z).length ≤ 10 := by
  have h := dtx_ten h0 h1
  have e : (dtx z).data.toList.length = (dtx z).size := rfl
  rw [← dtx_list, e]; exact h
theorem dyW_ten {z : Int} (h0 : -99999 ≤ z) (h1 : z ≤ 99999) : (dyW z).length ≤ 10 := by
  unfold dyW
  split
  · decide
  · exact itoa_ten h0 h1
theorem rgW_bd {r : Int × Int} (h : r5Ok r) : (rgW r).length ≤ 21 := by
  have a := itoa_ten h.1.1 h.1.2
  have b := itoa_ten h.2.1 h.2.2
  unfold rgW
  split
  · omega
  · rw [List.length_append, List.length_cons]; omega
theorem scN_bd (rs : List R4) : ∀ k, ∀ x ∈ scN rs k, 0 ≤ x ∧ x < (k : Int)
  | 0, x, h => by simp [scN] at h
  | k + 1, x, h => by
    have ih := scN_bd rs k x
    unfold scN at h
    split at h
    · rcases List.mem_append.1 h with h | h
      · have := ih h; omega
      · obtain rfl := List.mem_singleton.1 h; omega
    · have := ih h; omega
theorem scL_bd (rs : List R4) : ∀ x ∈ scL rs, 0 ≤ x ∧ x < 40 := by
  intro x hx
  cases h : stB rs
  · rw [scL_no h] at hx; simp at hx
  · rw [scL_yes h] at hx
    have h1 := scN_bd rs _ x hx
    have h2 := (stB_facts h).2
    omega
theorem getD_of_mem {l : List Int} {P : Int → Prop} (h : ∀ i, i < l.length → P (l.getD i 0)) : ∀ x ∈ l, P x := by
  intro x hx
  obtain ⟨i, hi, e⟩ := List.mem_iff_getElem.1 hx
  have := h i hi
  rw [List.getD_eq_getElem?_getD, List.getElem?_eq_getElem hi, Option.getD_some, e] at this
  exact this
theorem getD_of_memR {l : List R2} {P : R2 → Prop} (h : ∀ i, i < l.length → P (l.getD i u0)) : ∀ x ∈ l, P x := by
  intro x hx
  obtain ⟨i, hi, e⟩ := List.mem_iff_getElem.1 hx
  have := h i hi
  rw [List.getD_eq_getElem?_getD, List.getElem?_eq_getElem hi, Option.getD_some, e] at this
  exact this
theorem chT_bd (rs : List R4) : (chT rs).length ≤ 450 := by
  have h := lsT_bd sValues 10 ((scL rs).map Lib.itoa) (fun u hu => by
    obtain ⟨x, hx, rfl⟩ := List.mem_map.1 hu
    have := scL_bd rs x hx
    exact itoa_ten (by omega) (by omega))
  have h2 := scL_len rs
  rw [List.length_map] at h
  have e : sValues.length = 6 := rfl
  unfold chT
  omega
theorem akT_bd (rs : List R4) (ps : List (List UInt8)) : (akT rs ps).length ≤ 450 := by
  have hl := akL_len rs ps
  unfold akT
  split
  · rename_i hk
    have HB := akL_bd hk
    split
    · unfold flT
      split
      · rename_i hg
        have h := lsT_bd sRanges 21 ((gRL (akL rs ps) (kLo (wn ps 2)) (kHi (wn ps 2)) (wn ps 5)).map rgW) (fun u hu => by
          obtain ⟨x, hx, rfl⟩ := List.mem_map.1 hu
          exact rgW_bd (getD_of_memR (P := r5Ok) (gRL_bd hg) x hx))
        have h2 := gRL_12 hl (kLo (wn ps 2)) (kHi (wn ps 2)) (wn ps 5)
        rw [List.length_map] at h
        have e : sRanges.length = 6 := rfl
        omega
      · decide
    · split
      · unfold meT
        split
        · rename_i hb
          obtain ⟨v1, v2⟩ := mz_bd hb
          have := itoa_ten (z := meV (akL rs ps) (wn ps 5)) (by omega) (by omega)
          rw [List.length_append, List.length_cons]
          have e : sMean.length = 4 := rfl
          omega
        · decide
      · unfold seT
        have h := lsT_bd sValues 10 ((akL rs ps).map dyW) (fun u hu => by
          obtain ⟨x, hx, rfl⟩ := List.mem_map.1 hu
          have := getD_of_mem (P := fun z => -99999 ≤ z ∧ z ≤ 99999) HB x hx
          exact dyW_ten this.1 this.2)
        rw [List.length_map] at h
        have e : sValues.length = 6 := rfl
        omega
  · decide
theorem stp_bd {rs rs2 : List R4} {l t : List UInt8} (h : Stp rs l rs2 t) (hr : rs.length ≤ 40) : rs2.length ≤ 40 ∧ t.length ≤ 450 := by
  cases h with
  | ask _ => exact ⟨hr, akT_bd _ _⟩
  | changes _ => exact ⟨hr, chT_bd _⟩
  | add r _ _ => exact ⟨adL_len _ _, by decide⟩
  | full r _ _ => exact ⟨hr, by decide⟩
  | what _ _ _ => exact ⟨hr, by decide⟩
theorem run_bd {ls : List (List UInt8)} {n : Nat} {rs : List R4} {out : List UInt8} (h : Run ls n rs out) : rs.length ≤ 40 ∧ out.length ≤ n * 451 := by
  induction h with
  | none => exact ⟨Nat.zero_le _, Nat.zero_le _⟩
  | more hr hs ih =>
    obtain ⟨h1, h2⟩ := ih
    obtain ⟨h3, h4⟩ := stp_bd hs h1
    refine ⟨h3, ?_⟩
    rw [List.length_append, List.length_append, Nat.add_mul, Nat.one_mul]
    simp only [List.length_singleton]
    omega
theorem cutL_len (x : UInt8) : ∀ l : List UInt8, (cutL x l).length ≤ l.length + 1
  | [] => by simp [cutL]
  | c :: l => by
    have ih := cutL_len x l
    unfold cutL
    split
    · simp only [List.length_cons]; omega
    · split
      · simp
      · rename_i p ps h
        rw [h] at ih
        simp only [List.length_cons] at ih ⊢
        omega
theorem cutL_part (x : UInt8) : ∀ l : List UInt8, ∀ p ∈ cutL x l, p.length ≤ l.length
  | [], p, h => by simp [cutL] at h; simp [h]
  | c :: l, p, h => by
    have ih := cutL_part x l
    unfold cutL at h
    split at h
    · rcases List.mem_cons.1 h with rfl | h
      · simp
      · have := ih p h; simp only [List.length_cons]; omega
    · split at h
      · obtain rfl := List.mem_singleton.1 h; simp
      · rename_i q qs e
        rcases List.mem_cons.1 h with rfl | h
        · have := ih q (by rw [e]; simp)
          simp only [List.length_cons]; omega
        · have := ih p (by rw [e]; exact List.mem_cons_of_mem _ h)
          simp only [List.length_cons]; omega
/-- A script is answered. -/
def ExPost (l : List UInt8) (w : World) (e : Ending) (w' : World) : Prop := ∃ s : ByteArray, e = .returned (.string s) ∧ Exec l s.data.toList ∧ Keep w w'
/-- A script has an output. -/
theorem run_ex (ls : List (List UInt8)) : ∀ n, ∃ rs out, Run ls n rs out
  | 0 => ⟨_, _, .none⟩
  | n + 1 => by
    obtain ⟨rs, out, h⟩ := run_ex ls n
    obtain ⟨rs2, t, hs⟩ := stp_ex rs (ls.getD n [])
    exact ⟨_, _, .more h hs⟩
end Go.Proofs.YtnemdnidlbekbaaGreatDoor
namespace Go.Proofs.YtnemdnidlbekbaaGreatDoor
open Go.RowKit
set_option linter.unusedVariables false

theorem index_hit (x : UInt8) (l : List UInt8) : Lib.index (x :: l) [x] = 0 := by
  unfold Lib.index; rw [if_pos (by simp)]
theorem index_far {x c : UInt8} (h : c ≠ x) (l : List UInt8) : Lib.index (c :: l) [x] = if Lib.index l [x] == -1 then -1 else Lib.index l [x] + 1 := by
  have e : ([x] : List UInt8).isPrefixOf (c :: l) = false := by
    have h2 : (x == c) = false := beq_eq_false_iff_ne.2 (fun e => h e.symm)
    show (x == c && ([] : List UInt8).isPrefixOf l) = false
    rw [h2]; rfl
  rw [Lib.index, e, if_neg (by simp)]
theorem splitK_far {x c : UInt8} (h : c ≠ x) (l : List UInt8) (k : Nat) : Lib.splitK [x] 0 k (c :: l) = match Lib.splitK [x] 0 k l with
    | [] => [[c]]
    | p :: ps => (c :: p) :: ps := by
  cases k with
  | zero => rfl
  | succ k =>
    have hi := index_far h l
    unfold Lib.splitK
    by_cases hm : (Lib.index l [x] == -1) = true
    · rw [if_pos hm] at hi
      rw [if_pos hm, hi, if_pos (by decide)]
    · rw [if_neg hm] at hi
      have hg := Lib.index_ge l [x]
      have hn : Lib.index l [x] ≠ -1 := fun e => hm (beq_iff_eq.2 e)
      have h2 : ¬ (Lib.index (c :: l) [x] == -1) = true := fun e => by have := beq_iff_eq.1 e; omega
      rw [if_neg hm, if_neg h2]
      obtain ⟨i, e⟩ : ∃ i : Nat, Lib.index l [x] = i := ⟨(Lib.index l [x]).toNat, by omega⟩
      rw [e] at hi
      rw [hi, e]
      have e1 : ((i : Int) + 1).toNat = i + 1 := by omega
      have e2 : ((i : Int)).toNat = i := by omega
      rw [e1, e2]
      simp
theorem splitK_cutL (x : UInt8) : ∀ l : List UInt8, Lib.splitK [x] 0 (l.count x) l = cutL x l
  | [] => rfl
  | c :: l => by
    have ih := splitK_cutL x l
    by_cases h : c = x
    · subst h
      rw [List.count_cons_self, Lib.splitK, index_hit, if_neg (by decide), cutL, if_pos rfl, ← ih]
      rfl
    · rw [List.count_cons_of_ne h, splitK_far h, ih, cutL, if_neg h]
      all_goals (cases cutL x l <;> rfl)
theorem split_cutL (x : UInt8) (s : ByteArray) : ws (Lib.splitB ⟨#[x]⟩ 0 (Lib.countB s ⟨#[x]⟩) s) = cutL x s.data.toList := by
  have e : Lib.countB s ⟨#[x]⟩ = s.data.toList.count x := Lib.count_one x _
  unfold ws
  rw [Lib.splitB_data, e]
  exact splitK_cutL x _
/-- The library holds a number. -/
def MaxL (w : World) : Prop := ∃ m : Int, w.cell? ⟨0, 0, none⟩ = some (.int .i64 m)
theorem MaxL.keep {w w' : World} (h : MaxL w) (k : Keep w w') : MaxL w' := by
  obtain ⟨m, h⟩ := h
  exact ⟨m, k.cell h⟩
theorem split_any (s : ByteArray) (x : UInt8) (w : World) (M : MaxL w) (hs : s.size ≤ 1048576) :
    Calls Tryz.prog 21 #[.string s, .string ⟨#[x]⟩] w fun e w' => ∃ (g : Nat) (bs : List ByteArray), e = .returned (.slice (some ⟨g, 0, none⟩) bs.length bs.length) ∧ ws bs = cutL x s.data.toList ∧ Ss w' g bs ∧ w.heap.size ≤ g ∧ (∃ cs fz, w'.heap[g]? = some (.cells cs 9 fz)) ∧ Keep w w' := by
  obtain ⟨m, hm⟩ := M
  refine (Tryz.strings_Split s ⟨#[x]⟩ m w (by omega) hm (Nat.le_refl 1)).mono fun e w' h => ?_
  obtain ⟨he, hw⟩ := h
  have hl : (Lib.splitB ⟨#[x]⟩ 0 (Lib.countB s ⟨#[x]⟩) s).length = Lib.countB s ⟨#[x]⟩ + 1 := Lib.splitB_all ⟨#[x]⟩ (Nat.le_refl 1) 0 _ s rfl
  refine ⟨w.heap.size, Lib.splitB ⟨#[x]⟩ 0 (Lib.countB s ⟨#[x]⟩) s, by rw [he, hl], split_cutL x s, ?_, Nat.le_refl _, ?_, by rw [hw]; exact (Keep.refl w).alloc _⟩
  · intro i hi
    rw [hw, World.cell?_alloc_new]
    simp [List.getD_eq_getElem?_getD, hi]
  · exact ⟨_, _, by rw [hw]; exact (MapKept.heap_alloc w _).1⟩
end Go.Proofs.YtnemdnidlbekbaaGreatDoor
namespace Go.Proofs.YtnemdnidlbekbaaGreatDoor
open Go.RowKit
set_option linter.unusedVariables false

def RunPost (rs : List R4) (sp : Nat) (l : List UInt8) (w : World) (e : Ending) (w' : World) : Prop :=
  (∃ (t : ByteArray) (rs2 : List R4), e = .returned (.string t) ∧ Stp rs l rs2 t.data.toList ∧ SesT w' sp rs2 ∧ Only sp w w') ∨
  (e = .panicked [{ v := .iface 59 (.agg #[]), recovered := false }] ∧ Stp rs l rs sWhat ∧ SesT w' sp rs ∧ Only sp w w')
theorem ses_parts {w : World} {sp : Nat} {rs : List R4} (h : SesT w sp rs) : ∃ (a : Option Addr) (cap : Nat), w.cell? ⟨sp, 0, none⟩ = some (.slice a rs.length cap) ∧ Rs w a rs ∧ rs.length ≤ cap := by
  obtain ⟨_, a, cap, c0, _, hR, hc, _⟩ := h
  exact ⟨a, cap, c0, hR, hc⟩
theorem ws_size {bs : List ByteArray} {l : List UInt8} (h : ws bs = cutL 32 l) (hl : l.length ≤ 1048576) (i : Nat) : (bs.getD i ⟨#[]⟩).size ≤ 1048576 := by
  by_cases hi : i < bs.length
  · have hm : (bs.getD i ⟨#[]⟩).data.toList ∈ ws bs := by
      unfold ws
      rw [List.getD_eq_getElem?_getD, List.getElem?_eq_getElem hi, Option.getD_some]
      exact List.mem_map.2 ⟨_, List.getElem_mem hi, rfl⟩
    rw [h] at hm
    have h1 := cutL_part 32 l _ hm
    have e : (bs.getD i ⟨#[]⟩).data.toList.length = (bs.getD i ⟨#[]⟩).size := rfl
    rw [e] at h1; omega
  · have e : bs.getD i ⟨#[]⟩ = ⟨#[]⟩ := by simp [List.getD_eq_getElem?_getD, Nat.le_of_not_lt hi]
    rw [e]; decide
theorem ws_len {bs : List ByteArray} {l : List UInt8} (h : ws bs = cutL 32 l) : bs.length ≤ l.length + 1 ∧ 0 < bs.length := by
  have h1 := cutL_len 32 l
  have h2 := cutL_pos 32 l
  rw [← h] at h1 h2
  unfold ws at h1 h2
  rw [List.length_map] at h1 h2
  exact ⟨h1, h2⟩
set_option maxRecDepth 100000 in
set_option maxHeartbeats 8000000 in
theorem run_any (sp : Nat) (s : ByteArray) (rs : List R4) (w : World) (T : Tabs w) (M : MaxL w) (hs : SesT w sp rs) (hl : rs.length ≤ 40) (hz : s.size ≤ 600) :
    Calls Tryz.prog 35 #[.pointer (some ⟨sp, 0, none⟩), .string s] w (RunPost rs sp s.data.toList w) := by
  have HT := Lib.hid T
  have HM := Lib.hid M
  have HS := Lib.hid hs
  have HRp := Lib.hid (fun W => rp_impl s W (by omega))
  have HSz : Hid (s.data.toList.length ≤ 1048576) := Lib.hid (by have e : s.data.toList.length = s.size := rfl
                                                                 omega)
  clear T M hs
  go_enter Tryz.func35, Tryz.ntmps35
  go_wp2_with fail
  refine (HRp.out _).mono ?_
  rintro e w1 ⟨hp, k1⟩
  rcases hp with ⟨sv, d, k, v, hrep, hrok, rfl⟩ | ⟨hno, rfl⟩
  · have hIs : Hid (IsRep s.data.toList (sv, d, k, v)) := Lib.hid ⟨hrep, hrok⟩
    clear hrep hrok
    have k2 : Keep w (w1.alloc (.cells #[.int .i64 sv, .int .i64 d, .int .i64 k, .int .i64 v] 54)) := k1.alloc _
    go_wp2_with fail
    refine (addT_any sp rs sv d k v _ (HS.out.keep k2) hl).mono ?_
    rintro e w2 ⟨⟨t, rfl, ht⟩, hS2, ho⟩
    have HST : Hid (Stp rs s.data.toList (if adB rs (sv, d, k, v) then adL rs (sv, d, k, v) else rs) t.data.toList) := Lib.hid (by
      rw [ht]
      cases hb : adB rs (sv, d, k, v)
      · rw [if_neg (by simp), if_neg (by simp)]; exact .full _ hIs.out hb
      · rw [if_pos rfl, if_pos rfl]; exact .add _ hIs.out hb)
    have HS2 := Lib.hid hS2
    have HO := Lib.hid (k2.only.trans ho)
    clear ht hS2 ho
    generalize (if adB rs (sv, d, k, v) then adL rs (sv, d, k, v) else rs) = rs2 at HST HS2
    go_wp2
    go_ret
    exact .inl ⟨t, rs2, rfl, HST.out, HS2.out, HO.out⟩
  · have hNo : Hid (∀ r, ¬ IsRep s.data.toList r) := Lib.hid (fun r h => by
      have h1 := hno _ _ _ _ h.1
      have h2 : rOk (rS r) (rD r) (rK r) (rV r) = true := h.2
      rw [h1] at h2; cases h2)
    clear hno
    by_cases hc : s.data.toList = sChanges
    · have HCh := Lib.hid hc
      have f1 : (s.toList == [99, 104, 97, 110, 103, 101, 115]) = true := by rw [Lib.toList_data, hc]; rfl
      clear hc
      have k2 : Keep w (w1.alloc (.cells #[.int .i64 0, .int .i64 0, .int .i64 0, .int .i64 0] 54)) := k1.alloc _
      obtain ⟨a, cap, c0, hR, hcap⟩ := ses_parts (HS.out.keep k2)
      have HSc := Lib.hid (sc_impl a cap rs _ hR (by omega))
      have hB : Hid (∀ i, i < (scL rs).length → -99999 ≤ (scL rs).getD i 0 ∧ (scL rs).getD i 0 ≤ 99999) := Lib.hid (fun i hi => by
        have hm : (scL rs).getD i 0 ∈ scL rs := by
          rw [List.getD_eq_getElem?_getD, List.getElem?_eq_getElem hi, Option.getD_some]; exact List.getElem_mem hi
        have := scL_bd rs _ hm
        omega)
      have hln := scL_len rs
      clear hR
      go_wp2_with fail
      refine HSc.out.mono ?_
      rintro e w2 ⟨a2, c2, rfl, hF, k3⟩
      have k4 := k2.trans k3
      go_wp2_with fail
      refine (listed_num _ a2 c2 (scL rs) w2 hF.ls (by omega) (HT.out.keep k4) (by decide) hB.out).mono ?_
      rintro e w3 ⟨⟨t, rfl, ht⟩, k5⟩
      have HST : Hid (Stp rs s.data.toList rs t.data.toList) := Lib.hid (by rw [ht]; exact .changes HCh.out)
      have k6 := k4.trans k5
      clear ht
      go_wp2
      go_ret
      exact .inl ⟨t, rs, rfl, HST.out, HS.out.keep k6, k6.only⟩
    · have HCh := Lib.hid hc
      have f1 : (s.toList == [99, 104, 97, 110, 103, 101, 115]) = false := by rw [Lib.toList_data]; exact beq_eq_false_iff_ne.2 hc
      clear hc
      have k2 : Keep w (w1.alloc (.cells #[.int .i64 0, .int .i64 0, .int .i64 0, .int .i64 0] 54)) := k1.alloc _
      have HSpl := Lib.hid (split_any s 32 _ (HM.out.keep k2) (by omega))
      have HCm := Lib.hid (fun W => cmds_any sp W)
      go_wp2_with fail
      refine HSpl.out.mono ?_
      rintro e w2 ⟨g, bs, rfl, hws, hSs, _, _, k3⟩
      have HW := Lib.hid hws
      obtain ⟨hbl, hbp⟩ := ws_len hws
      have hbl2 : bs.length ≤ 1048576 := by have e : s.data.toList.length = s.size := rfl
                                            omega
      clear hws hbl
      have k4 := k2.trans k3
      have hs0 := ws_size HW.out HSz.out
      go_wp2_with fail
      refine (HCm.out _).mono ?_
      rintro e w3 ⟨B, rfl, hmap, k5⟩
      have k6 := k4.trans k5
      have HSs := Lib.hid (hSs.keep k5)
      have hs00 := hs0 0
      have hlk := look_cm hmap (bs.getD 0 ⟨#[]⟩) (by unfold maxLen; omega)
      have HHs := Lib.hid hs0
      have HWd := Lib.hid (word_any g bs.length bs 0 w3 HSs.out hbl2)
      obtain ⟨a, cap, c0, hR, hcap⟩ := ses_parts (HS.out.keep k6)
      have HSe := Lib.hid (series_any sp g bs.length a cap rs bs w3 (HT.out.keep k6) c0 hR (by omega) hcap HSs.out hbl2 HHs.out)
      have HFi := Lib.hid (fill_any sp g bs.length a cap rs bs w3 (HT.out.keep k6) c0 hR (by omega) hcap HSs.out hbl2 HHs.out)
      have HMe := Lib.hid (mean_any sp g bs.length a cap rs bs w3 (HT.out.keep k6) c0 hR (by omega) hcap HSs.out hbl2 HHs.out)
      have HW0 : Hid (wd (cutL 32 s.data.toList) 0 = (bs.getD 0 ⟨#[]⟩).data.toList) := Lib.hid (by rw [← HW.out]; exact wd_ws bs 0)
      have HAk : Hid (∀ t, isAsk (bs.getD 0 ⟨#[]⟩).data.toList = true → t = akT rs (ws bs) → Stp rs s.data.toList rs t) := Lib.hid (fun t h1 h2 => by
        rw [h2, HW.out]; exact .ask (by rw [HW0.out]; exact h1))
      have HAkT : Hid (akT rs (ws bs) = if akOk rs (ws bs) then (if (bs.getD 0 ⟨#[]⟩).data.toList = sFill then flT rs (ws bs) else if (bs.getD 0 ⟨#[]⟩).data.toList = sMean then meT rs (ws bs) else seT rs (ws bs)) else sNo) := Lib.hid (by rw [← wd_ws bs 0]; rfl)
      have HWh : Hid (isAsk (bs.getD 0 ⟨#[]⟩).data.toList = false → Stp rs s.data.toList rs sWhat) := Lib.hid (fun h => .what (by rw [HW0.out]; exact h) HCh.out hNo.out)
      have HSF := Lib.hid (HS.out.keep k6)
      clear hSs hs0 hs00 hmap hR c0 HW0 HW HCh hNo HSs HHs HSpl HCm HRp f1 hbp
      generalize bs.getD 0 ⟨#[]⟩ = b0 at *
      generalize flT rs (ws bs) = TF at *
      generalize meT rs (ws bs) = TM at *
      generalize seT rs (ws bs) = TS at *
      generalize akT rs (ws bs) = TA at *
      generalize akOk rs (ws bs) = ok at *
      by_cases h2 : b0.data.toList = sFill
      · have e1 : cmV sp b0.data.toList = .func (.func 77) #[.pointer (some ⟨sp, 0, none⟩)] #[] := by
          unfold cmV; rw [h2, if_neg (by decide), if_pos rfl]; rfl
        have e2 : isAsk b0.data.toList = true := by rw [h2]; decide
        rw [e1, e2] at hlk
        have HF : Hid (∀ t, t = (if ok then TF else sNo) → Stp rs s.data.toList rs t) := Lib.hid (fun t h => HAk.out t e2 (by rw [h, HAkT.out, if_pos h2]))
        clear e1 e2 h2 HAk HAkT HWh HSe HMe
        go_wp2_with fail
        refine HWd.out.mono ?_
        rintro e w4 ⟨rfl, rfl⟩
        go_wp2_with fail
        refine HFi.out.mono ?_
        rintro e w5 ⟨t, rfl, ht, k7⟩
        have HST := Lib.hid (HF.out _ ht)
        clear ht
        go_wp2
        go_ret
        exact .inl ⟨t, rs, rfl, HST.out, HSF.out.keep k7, (k6.trans k7).only⟩
      by_cases h3 : b0.data.toList = sMean
      · have e1 : cmV sp b0.data.toList = .func (.func 78) #[.pointer (some ⟨sp, 0, none⟩)] #[] := by
          unfold cmV; rw [h3, if_pos rfl]; rfl
        have e2 : isAsk b0.data.toList = true := by rw [h3]; decide
        rw [e1, e2] at hlk
        have HF : Hid (∀ t, t = (if ok then TM else sNo) → Stp rs s.data.toList rs t) := Lib.hid (fun t h => HAk.out t e2 (by rw [h, HAkT.out, if_neg h2, if_pos h3]))
        clear e1 e2 h2 h3 HAk HAkT HWh HSe HFi
        go_wp2_with fail
        refine HWd.out.mono ?_
        rintro e w4 ⟨rfl, rfl⟩
        go_wp2_with fail
        refine HMe.out.mono ?_
        rintro e w5 ⟨t, rfl, ht, k7⟩
        have HST := Lib.hid (HF.out _ ht)
        clear ht
        go_wp2
        go_ret
        exact .inl ⟨t, rs, rfl, HST.out, HSF.out.keep k7, (k6.trans k7).only⟩
      by_cases h1 : b0.data.toList = sSeries
      · have e1 : cmV sp b0.data.toList = .func (.func 76) #[.pointer (some ⟨sp, 0, none⟩)] #[] := by
          unfold cmV; rw [h1, if_neg (by decide), if_neg (by decide), if_pos rfl]; rfl
        have e2 : isAsk b0.data.toList = true := by rw [h1]; decide
        rw [e1, e2] at hlk
        have HF : Hid (∀ t, t = (if ok then TS else sNo) → Stp rs s.data.toList rs t) := Lib.hid (fun t h => HAk.out t e2 (by rw [h, HAkT.out, if_neg h2, if_neg h3]))
        clear e1 e2 h1 h2 h3 HAk HAkT HWh HMe HFi
        go_wp2_with fail
        refine HWd.out.mono ?_
        rintro e w4 ⟨rfl, rfl⟩
        go_wp2_with fail
        refine HSe.out.mono ?_
        rintro e w5 ⟨t, rfl, ht, k7⟩
        have HST := Lib.hid (HF.out _ ht)
        clear ht
        go_wp2
        go_ret
        exact .inl ⟨t, rs, rfl, HST.out, HSF.out.keep k7, (k6.trans k7).only⟩
      · have e1 : cmV sp b0.data.toList = .nilFunc := by unfold cmV; rw [if_neg h3, if_neg h2, if_neg h1]
        have e2 : isAsk b0.data.toList = false := by unfold isAsk; rw [decide_eq_false h1, decide_eq_false h2, decide_eq_false h3]; rfl
        rw [e1, e2] at hlk
        have HST := Lib.hid (HWh.out e2)
        clear e1 e2 h1 h2 h3 HAk HAkT HWh HMe HFi HSe
        go_wp2_with fail
        refine HWd.out.mono ?_
        rintro e w4 ⟨rfl, rfl⟩
        go_wp2
        exact ⟨rfl, .inr ⟨rfl, HST.out, HSF.out, k6.only⟩⟩
end Go.Proofs.YtnemdnidlbekbaaGreatDoor
namespace Go.Proofs.YtnemdnidlbekbaaGreatDoor
open Go.RowKit
set_option linter.unusedVariables false

theorem ta_yes (W : World) : (Instr.typeAssert (.iface 59 (.agg #[])) 20 59 true).run Tryz.prog W = .ok (.tuple #[.agg #[], .bool true]) W := by kernel_rfl
theorem ta_no (W : World) : (Instr.typeAssert .nilIface 20 59 true).run Tryz.prog W = .ok (.tuple #[.agg #[], .bool false]) W := by kernel_rfl
set_option maxRecDepth 100000 in
theorem catch_bad (b : Nat) (x : Value) (older : List PanicEntry) (w : World) (hc : w.cell? ⟨b, 0, none⟩ = some (.string ⟨#[]⟩)) (hz : w.frozen? ⟨b, 0, none⟩ = false) :
    CallsD Tryz.prog 34 #[.pointer (some ⟨b, 0, none⟩)] (.panicking ({ v := .iface 59 (.agg #[]), recovered := false } :: older)) w fun e u' w' =>
      e = .returned (.tuple #[]) ∧ u' = .panicking ({ v := .iface 59 (.agg #[]), recovered := true } :: older) ∧ w' = (w.alloc (.cells #[] 59)).setCell ⟨b, 0, none⟩ (.string ⟨#[119, 104, 97, 116]⟩) := by
  have hlt := World.block_lt_of_cell? w _ hc
  have hc2 : (w.alloc (.cells #[] 59)).cell? ⟨b, 0, none⟩ = some (.string ⟨#[]⟩) := ((Keep.refl w).alloc _).cell hc
  have hz2 : (w.alloc (.cells #[] 59)).frozen? ⟨b, 0, none⟩ = false := ((Keep.refl w).alloc _).still hc hz
  have ta := ta_yes
  refine callsD_of_wpS Tryz.func34 rfl fun c₀ cs hu => ?_
  apply wpS_seq
  apply wpS_region
  simp [wpOpsS, go_sem, recoverD, hu, Tryz.ntmps34, Exit.thenS, ta]
  apply wpS_seq
  apply wpS_region
  simp [wpOpsS, go_sem, Exit.thenS]
  refine wpS_cond (t := true) (by simp [Act.eval, Array.replicate]) ?_
  simp only [if_true]
  apply wpS_region
  simp [wpOpsS, go_sem, hc2, hz2, bodyPostS, results, Tryz.results34]
set_option maxRecDepth 100000 in
theorem catch_idle (b : Nat) (w : World) :
    CallsD Tryz.prog 34 #[.pointer (some ⟨b, 0, none⟩)] .returning w fun e u' w' => e = .returned (.tuple #[]) ∧ u' = .returning ∧ w' = w.alloc (.cells #[] 59) := by
  have ta := ta_no
  refine callsD_of_wpS Tryz.func34 rfl fun c₀ cs hu => ?_
  apply wpS_seq
  apply wpS_region
  simp [wpOpsS, go_sem, recoverD, hu, Tryz.ntmps34, Exit.thenS, ta]
  apply wpS_seq
  apply wpS_region
  simp [wpOpsS, go_sem, Exit.thenS]
  refine wpS_cond (t := false) (by simp [Act.eval, Array.replicate]) ?_
  simp only [Bool.false_eq_true, if_false]
  refine wpS_of_wp (wp_skip ?_)
  cases c₀
  simp_all [bodyPostS, results, Tryz.results34]
theorem oth_put {E : Nat} {w : World} {b : Nat} (u : Value) : Lib.OthersKept E (some b) w (w.setCell ⟨b, 0, none⟩ u) := (Lib.OthersKept.refl E (some b) w).setCell _ rfl u
/-- What a line is answered with. -/
def AnPost (rs : List R4) (sp : Nat) (l : List UInt8) (w : World) (e : Ending) (w' : World) : Prop :=
  ∃ (t : ByteArray) (rs2 : List R4), e = .returned (.string t) ∧ Stp rs l rs2 t.data.toList ∧ SesT w' sp rs2 ∧ Only sp w w'
theorem an_post {rs rs2 : List R4} {sp : Nat} {l : List UInt8} {w w1 : World} {t u : ByteArray} (hsp : sp < w.heap.size) (hst : Stp rs l rs2 t.data.toList) (hS : SesT w1 sp rs2) (ho : Only sp (w.alloc (.cells #[.string u] 9)) w1)
    {e : Ending} {w' : World} (he : e = .returned (.string t)) (hw : w' = (w1.setCell ⟨w.heap.size, 0, none⟩ (.string t)).alloc (.cells #[] 59) ∨ w' = (w1.alloc (.cells #[] 59)).setCell ⟨w.heap.size, 0, none⟩ (.string t)) : AnPost rs sp l w e w' := by
  have ho1 : Only sp w w1 := ((Only.refl sp w).alloc _).trans ho
  have hb : w1.heap[w.heap.size]? = some (.cells #[.string u] 9) := by
    rw [ho.block w.heap.size (by simp) (by simp; omega)]
    exact (MapKept.heap_alloc w _).1
  have hlt : w.heap.size < w1.heap.size := (Array.getElem?_eq_some_iff.1 hb).1
  have hT : ¬ TyR w1 w.heap.size := by
    rintro ⟨cs, fz, h⟩
    rw [hb] at h
    injection h with h
    injection h with _ h _
    revert h; decide
  have hput : ∀ W : World, SesT W sp rs2 → ¬ TyR W w.heap.size → SesT (W.setCell ⟨w.heap.size, 0, none⟩ (.string t)) sp rs2 := fun W h h2 =>
    h.oth (E := 5) (oth_put _) (by simp [World.setCell]) (by omega) h2 (by decide) (by decide)
  rcases hw with rfl | rfl
  · refine ⟨t, rs2, he, hst, (hput w1 hS hT).keep ((Keep.refl _).alloc _), (ho1.setCell (Nat.le_refl _) _).alloc _⟩
  · refine ⟨t, rs2, he, hst, hput _ (hS.keep ((Keep.refl _).alloc _)) ?_, (ho1.alloc _).setCell (Nat.le_refl _) _⟩
    rintro ⟨cs, fz, h⟩
    exact hT ⟨cs, fz, (Below.block ((Keep.refl w1).alloc (.cells #[] 59)) _ hlt).symm.trans h⟩
set_option maxRecDepth 100000 in
set_option maxHeartbeats 2000000 in
theorem answer_any (sp : Nat) (s : ByteArray) (rs : List R4) (w : World) (T : Tabs w) (M : MaxL w) (hs : SesT w sp rs) (hl : rs.length ≤ 40) (hz : s.size ≤ 600) :
    Calls Tryz.prog 23 #[.pointer (some ⟨sp, 0, none⟩), .string s] w (AnPost rs sp s.data.toList w) := by
  have hmf : ∀ (fn : Fn) (first cap : Array Value) (w : World), (Instr.makeFunc fn first cap).run Tryz.prog w = .ok (.func fn first cap) w := fun _ _ _ _ => rfl
  have hsp : sp < w.heap.size := by
    obtain ⟨⟨cs, fz, h⟩, _⟩ := hs
    exact (Array.getElem?_eq_some_iff.1 h).1
  have k1 : Keep w (w.alloc (.cells #[.string ⟨#[]⟩] 9)) := (Keep.refl w).alloc _
  have HR := Lib.hid (run_any sp s rs (w.alloc (.cells #[.string ⟨#[]⟩] 9)) (T.keep k1) (M.keep k1) (hs.keep k1) hl hz)
  clear T M hs
  go_enter_defers Tryz.func23, Tryz.ntmps23
  go_wp2_with fail
  refine HR.out.mono ?_
  rintro e w1 (⟨t, rs2, rfl, hst, hS, ho⟩ | ⟨rfl, hst, hS, ho⟩)
  · have c1 : w1.cell? ⟨w.heap.size, 0, none⟩ = some (.string ⟨#[]⟩) := newCellO ho hsp 0 _ rfl
    have f1 : w1.frozen? ⟨w.heap.size, 0, none⟩ = false := newFrozenO ho hsp 0
    have c2 : (w1.setCell ⟨w.heap.size, 0, none⟩ (.string t)).cell? ⟨w.heap.size, 0, none⟩ = some (.string t) := World.cell?_setCell_same _ _ _ c1
    have c3 : ((w1.setCell ⟨w.heap.size, 0, none⟩ (.string t)).alloc (.cells #[] 59)).cell? ⟨w.heap.size, 0, none⟩ = some (.string t) := ((Keep.refl _).alloc _).cell c2
    have HP := Lib.hid (fun e w' he hw => an_post (e := e) (w' := w') hsp hst hS ho he (.inl hw))
    clear hst hS ho
    go_wp2
    refine leaves_cons (f := 34) (args := #[.pointer (some ⟨w.heap.size, 0, none⟩)]) (by simp) (by simp [go_sem]) ?_
    refine (catch_idle w.heap.size _).mono ?_
    rintro e u' w'' ⟨rfl, rfl, rfl⟩
    simp [Leaves, settle, results, Tryz.results23, go_sem, c3]
    exact HP.out _ _ rfl rfl
  · have c1 : w1.cell? ⟨w.heap.size, 0, none⟩ = some (.string ⟨#[]⟩) := newCellO ho hsp 0 _ rfl
    have f1 : w1.frozen? ⟨w.heap.size, 0, none⟩ = false := newFrozenO ho hsp 0
    have hst2 : Stp rs s.data.toList rs (⟨#[119, 104, 97, 116]⟩ : ByteArray).data.toList := hst
    have HP := Lib.hid (fun e w' he hw => an_post (e := e) (w' := w') hsp hst2 hS ho he (.inr hw))
    clear hst hst2 hS ho
    go_wp2
    refine leaves_cons (f := 34) (args := #[.pointer (some ⟨w.heap.size, 0, none⟩)]) (by simp) (by simp [go_sem]) ?_
    refine (catch_bad w.heap.size (.string ⟨#[]⟩) [] _ c1 f1).mono ?_
    rintro e u' w'' ⟨rfl, rfl, rfl⟩
    have c3 : ((w1.alloc (.cells #[] 59)).setCell ⟨w.heap.size, 0, none⟩ (.string ⟨#[119, 104, 97, 116]⟩)).cell? ⟨w.heap.size, 0, none⟩ = some (.string ⟨#[119, 104, 97, 116]⟩) := World.cell?_setCell_same _ _ _ (((Keep.refl _).alloc _).cell c1)
    simp [Leaves, settle, results, Tryz.results23, go_sem, c3]
    exact HP.out _ _ rfl rfl
end Go.Proofs.YtnemdnidlbekbaaGreatDoor
namespace Go.Proofs.YtnemdnidlbekbaaGreatDoor
open Go.RowKit
set_option linter.unusedVariables false

theorem wbInfo : (Tryz.prog.info? 37).map (·.size) = some 2 := by kernel_rfl
theorem wbLies : liesAt Tryz.prog Tryz.prog.depth 37 (2 / Tryz.prog.cellsOf 37) 0 37 1 = true := by kernel_rfl
theorem wbByte : (Tryz.prog.info? 5).map (fun i => (i.zero, i.size, i.bytes)) = some (some (.int .u8 0), 1, 1) := by kernel_rfl
set_option maxRecDepth 100000 in
set_option maxHeartbeats 1000000 in
theorem check_new (b : Nat) (w : World) (c0 : w.cell? ⟨b, 0, none⟩ = some (.pointer none)) (hsh : w.shape? b = some (37, 2)) (f0 : w.frozen? ⟨b, 0, none⟩ = false) :
    Calls Tryz.prog 33 #[.pointer (some ⟨b, 0, none⟩)] w fun e w' => e = .returned (.tuple #[]) ∧ w' = w.setCell ⟨b, 0, none⟩ (.pointer (some ⟨b, 0, none⟩)) := by
  obtain ⟨j, hj, hjs⟩ := Option.map_eq_some_iff.1 wbInfo
  go_enter Tryz.func33, Tryz.ntmps33
  go_wp2
  rw [Lib.run_to_unsafe w ⟨b, 0, none⟩ Tryz.underlying35 Tryz.underlying74 hj (by rw [hjs]; decide) hsh (Nat.zero_lt_succ 1)]
  simp only [Result.andThen]
  rw [Oper.upon_value]
  go_wp2
  rw [run_callFunc_extern Tryz.func48 (by kernel_rfl) (by kernel_rfl) (by kernel_rfl) (e := Extern.AbiNoEscape.same) (by kernel_rfl)]
  rw [Lib.run_noEscape]
  simp only [Result.andThen]
  rw [Oper.upon_value]
  go_wp2
  rw [Lib.run_from_unsafe w ⟨b, 0, none⟩ Tryz.underlying74 Tryz.underlying35 hj hsh wbLies]
  simp only [Result.andThen]
  rw [Oper.upon_value]
  go_wp2
  go_end0
  exact ⟨rfl, rfl⟩
set_option maxRecDepth 100000 in
set_option maxHeartbeats 1000000 in
theorem check_old (b : Nat) (w : World) (c0 : w.cell? ⟨b, 0, none⟩ = some (.pointer (some ⟨b, 0, none⟩))) :
    Calls Tryz.prog 33 #[.pointer (some ⟨b, 0, none⟩)] w fun e w' => e = .returned (.tuple #[]) ∧ w' = w := by
  obtain ⟨j, hj, _⟩ := Option.map_eq_some_iff.1 wbInfo
  have hpp := Lib.run_neq_ptr_same w (P := Tryz.prog) ⟨b, 0, none⟩ Tryz.underlying35 hj
  go_enter Tryz.func33, Tryz.ntmps33
  go_wp2
  go_end0
  exact ⟨rfl, rfl⟩
/-- What the check leaves. -/
def ChkPost (B b : Nat) (xs : List Value) (w : World) (e : Ending) (w' : World) : Prop :=
  e = .returned (.tuple #[]) ∧ Lib.BuilderAtF 37 5 B b (.pointer (some ⟨b, 0, none⟩)) xs w' ∧ Below B w w' ∧ Lib.OthersKept 5 (some b) w w'
theorem check_any (B b : Nat) (xs : List Value) (w : World) (h : Lib.IsBuilderF 37 5 B b xs w) :
    Calls Tryz.prog 33 #[.pointer (some ⟨b, 0, none⟩)] w (ChkPost B b xs w) := by
  rcases h with h | h
  · refine (check_new b w h.cell0 h.shape h.frozen0).mono fun e w' ⟨he, hw⟩ => ?_
    subst hw
    exact ⟨he, h.used _, (Below.refl B w).setCell (p := ⟨b, 0, none⟩) h.1 _, (Lib.OthersKept.refl _ _ w).setCell ⟨b, 0, none⟩ rfl _⟩
  · refine (check_old b w h.cell0).mono fun e w' ⟨he, hw⟩ => ?_
    subst hw
    exact ⟨he, h, Below.refl B _, Lib.OthersKept.refl _ _ _⟩
set_option maxRecDepth 100000 in
set_option maxHeartbeats 2000000 in
theorem write_any (B b : Nat) (xs : List Value) (s : ByteArray) (w : World) (h : Lib.IsBuilderF 37 5 B b xs w) (hl : xs.length + s.size ≤ 140737488355328) (hB0 : B ≤ w.heap.size) :
    Calls Tryz.prog 22 #[.pointer (some ⟨b, 0, none⟩), .string s] w fun e w' => e = .returned (.tuple #[.int .i64 s.size, .nilIface]) ∧ Lib.IsBuilderF 37 5 B b (xs ++ Lib.strCells s) w' ∧ Below B w w' ∧ Lib.OthersKept 5 (some b) w w' := by
  obtain ⟨i0, hi, hz0, hz1, hz2⟩ := info_parts wbByte
  go_enter Tryz.func22, Tryz.ntmps22
  go_wp2_with fail
  refine (check_any B b xs w h).mono ?_
  rintro e w1 ⟨rfl, ⟨hB, v, hbk, hown, hne⟩, hlo, hot⟩
  have hs1 := hlo.size
  have hlt : b < w1.heap.size := (Array.getElem?_eq_some_iff.1 hbk).1
  have c0 : w1.cell? ⟨b, 0, none⟩ = some (.pointer (some ⟨b, 0, none⟩)) := by rw [Lib.cell_of_heap hbk]; rfl
  have c1 : w1.cell? ⟨b, 1, none⟩ = some v := by rw [Lib.cell_of_heap hbk]; rfl
  go_wp2_with (at_builtin; refine Lib.wpList_append_own_stringF _ rfl _ _ 22 9 rfl B 5 i0 Tryz.underlying22 Tryz.underlying9 hi hz0 hz1 hz2 _ _ _ rfl hown s rfl ?la ?lb ?lc ?_)
  case la => unfold maxLen; omega
  case lb => omega
  case lc => omega
  intro v' w2 hown' hgrow _
  have hb2 : w2.heap[b]? = some (.cells #[.pointer (some ⟨b, 0, none⟩), v] 37 (0, 0)) := (hgrow.block b hlt (fun e => hne e.symm)).trans hbk
  have d0 : w2.cell? ⟨b, 0, none⟩ = some (.pointer (some ⟨b, 0, none⟩)) := by rw [Lib.cell_of_heap hb2]; rfl
  have d1 : w2.cell? ⟨b, 1, none⟩ = some v := by rw [Lib.cell_of_heap hb2]; rfl
  have f1 : w2.frozen? ⟨b, 1, none⟩ = false := Lib.frozen_of_heap hb2 1
  have HP : Hid (Lib.IsBuilderF 37 5 B b (xs ++ Lib.strCells s) (w2.setCell ⟨b, 1, none⟩ v') ∧ Below B w (w2.setCell ⟨b, 1, none⟩ v') ∧ Lib.OthersKept 5 (some b) w (w2.setCell ⟨b, 1, none⟩ v')) := Lib.hid
    ⟨.inr (Lib.BuilderAtF.put (T := 37) (e := 5) hB hb2 (bs' := xs ++ Lib.strCells s) (by simpa [Lib.strCells_length] using hown') (by decide)),
      (hlo.grown hgrow (by omega) (fun k hk => (hown.lt k hk).1)).setCell (p := ⟨b, 1, none⟩) hB _, (hot.grown hgrow (Lib.ownsRowF_kind hown)).setCell ⟨b, 1, none⟩ rfl _⟩
  obtain ⟨ao, n', cap, rfl⟩ : ∃ ao n' cap, v' = .slice ao n' cap := by
    rcases hown'.2 with ⟨hv, _⟩ | ⟨g, cap, cur, fz, hv, _⟩
    · exact ⟨_, _, _, hv⟩
    · exact ⟨_, _, _, hv⟩
  go_wp2
  go_ret2
  exact ⟨rfl, HP.out⟩
end Go.Proofs.YtnemdnidlbekbaaGreatDoor
namespace Go.Proofs.YtnemdnidlbekbaaGreatDoor
open Go.RowKit
set_option linter.unusedVariables false

/-- Block g is one of texts. -/
def SsT (w : World) (g : Nat) (bs : List ByteArray) : Prop := Ss w g bs ∧ ∃ cs fz, w.heap[g]? = some (.cells cs 9 fz)
theorem SsT.only {w w' : World} {g sp : Nat} {bs : List ByteArray} {rs : List R4} (h : SsT w g bs) (hs : SesT w sp rs) (ho : Only sp w w') : SsT w' g bs := by
  obtain ⟨h1, cs, fz, h2⟩ := h
  obtain ⟨⟨cs2, fz2, h3⟩, _⟩ := hs
  have hne : g ≠ sp := fun e => by
    rw [e, h3] at h2
    injection h2 with h2
    injection h2 with _ h2 _
    revert h2; decide
  have hlt : g < w.heap.size := (Array.getElem?_eq_some_iff.1 h2).1
  have hb := ho.block g hlt (by simpa using hne)
  exact ⟨fun i hi => (World.cell?_of_block (w := w) hb).trans (h1 i hi), cs, fz, hb.trans h2⟩
theorem SsT.oth {w w' : World} {g b : Nat} {bs : List ByteArray} (h : SsT w g bs) (k : Lib.OthersKept 5 (some b) w w') (hne : g ≠ b) : SsT w' g bs := by
  obtain ⟨h1, cs, fz, h2⟩ := h
  have hb : w'.heap[g]? = some (.cells cs 9 fz) := k g _ h2 (fun e => hne (Option.some.inj e)) (fun c f e => by injection e with _ e _; revert e; decide)
  exact ⟨fun i hi => (World.cell?_of_block (w := w) (hb.trans h2.symm)).trans (h1 i hi), cs, fz, hb⟩
theorem bF_heap {B b : Nat} {xs : List Value} {w : World} (h : Lib.IsBuilderF 37 5 B b xs w) : ∃ cs fz, w.heap[b]? = some (.cells cs 37 fz) := by
  rcases h with ⟨_, v, hb, _⟩ | ⟨_, v, hb, _⟩ <;> exact ⟨_, _, hb⟩
theorem bF_only {B b sp : Nat} {xs : List Value} {w w' : World} (h : Lib.IsBuilderF 37 5 B b xs w) (ho : Only sp w w') (hlt : sp < B) : Lib.IsBuilderF 37 5 B b xs w' := by
  have hx : ∀ p, Lib.BuilderAtF 37 5 B b p xs w → Lib.BuilderAtF 37 5 B b p xs w' := by
    rintro p ⟨hB, v, hb, hown, hne⟩
    have hbl : b < w.heap.size := (Array.getElem?_eq_some_iff.1 hb).1
    refine ⟨hB, v, (ho.block b hbl (by simp; omega)).trans hb, hown.kept (row := some sp) ho ?_, hne⟩
    by_cases hv : v.ownBlock = none
    · exact .inl hv
    · refine .inr fun e => ?_
      have := hown.lt sp e
      omega
  exact h.imp (hx _) (hx _)
theorem notTy {w : World} {b T : Nat} (h : ∃ cs fz, w.heap[b]? = some (.cells cs T fz)) (hT : T ≠ 54) : ¬ TyR w b := by
  rintro ⟨cs2, fz2, h2⟩
  obtain ⟨cs, fz, h⟩ := h
  rw [h] at h2
  injection h2 with h2
  injection h2 with _ h2 _
  exact hT h2
theorem notTyS {w : World} {b g : Nat} {bs : List ByteArray} (h : ∃ cs fz, w.heap[b]? = some (.cells cs 37 fz)) (hs : SsT w g bs) : g ≠ b := by
  rintro rfl
  obtain ⟨cs, fz, h⟩ := h
  obtain ⟨_, cs2, fz2, h2⟩ := hs
  rw [h] at h2
  injection h2 with h2
  injection h2 with _ h2 _
  revert h2; decide
set_option maxRecDepth 100000 in
set_option maxHeartbeats 8000000 in
theorem exec_impl (s : ByteArray) (w : World) (T : Tabs w) (M : MaxL w) : Calls Tryz.prog 13 #[.string s] w (ExPost s.data.toList w) := by
  have hse : s.data.toList.length = s.size := rfl
  by_cases hlong : 600 < s.size
  · have HX := Lib.hid (Exec.long (t := s.data.toList) (by rw [hse]; exact hlong))
    have q1 : (600 : Int) < (s.size : Int) := by omega
    go_enter Tryz.func13, Tryz.ntmps13
    go_wp2
    go_ret
    exact ⟨_, rfl, HX.out, Keep.refl _⟩
  have HNL : Hid (¬ 600 < s.data.toList.length) := Lib.hid (by rw [hse]; exact hlong)
  have q1 : ¬ (600 : Int) < (s.size : Int) := by omega
  have hss : s.size ≤ 600 := by omega
  have k2 : Keep w ((w.alloc (.cells #[.slice none 0 0] 34)).alloc (.cells #[.pointer none, .slice none 0 0] 37)) := ((Keep.refl w).alloc _).alloc _
  have HT := Lib.hid T
  have HM := Lib.hid M
  have HSp := Lib.hid (split_any s 10 _ (M.keep k2) (by omega))
  have HS0 : Hid (SesT ((w.alloc (.cells #[.slice none 0 0] 34)).alloc (.cells #[.pointer none, .slice none 0 0] 37)) w.heap.size []) := Lib.hid
    (SesT.keep (w := w.alloc (.cells #[.slice none 0 0] 34)) ⟨⟨_, _, (MapKept.heap_alloc w _).1⟩, none, 0, World.cell?_alloc_new w _ _ 0, World.frozen?_alloc_at _ _ _ _ rfl, .inl rfl, Nat.le_refl _, .inl ⟨rfl, rfl, rfl⟩⟩ ((Keep.refl _).alloc _))
  have HB0 : Hid (Lib.IsBuilderF 37 5 (w.heap.size + 1) (w.heap.size + 1) [] ((w.alloc (.cells #[.slice none 0 0] 34)).alloc (.cells #[.pointer none, .slice none 0 0] 37))) := Lib.hid (by
    have := Lib.IsBuilderF.of (Lib.fresh_isBuilder 37 5 (w.alloc (.cells #[.slice none 0 0] 34)))
    rwa [show (w.alloc (.cells #[.slice none 0 0] 34)).heap.size = w.heap.size + 1 by simp] at this)
  clear T M hse
  go_enter Tryz.func13, Tryz.ntmps13
  go_wp2_with fail
  refine HSp.out.mono ?_
  rintro e w2 ⟨g, bs, rfl, hws, hSs, hg, hgt, k3⟩
  have hlp := cutL_pos 10 s.data.toList
  have hll := cutL_len 10 s.data.toList
  have hwl : (cutL 10 s.data.toList).length = bs.length := by rw [← hws]; simp [ws]
  obtain ⟨m, hm⟩ : ∃ m, bs.length = m + 1 := ⟨bs.length - 1, by omega⟩
  have HW := Lib.hid hws
  have HSS := Lib.hid (⟨hSs, hgt⟩ : SsT w2 g bs)
  have K3 := k2.trans k3
  have HS3 := Lib.hid (HS0.out.keep k3)
  have HB3 := Lib.hid (bF_only (sp := w.heap.size) HB0.out k3.only (by omega))
  have HLs : Hid (∀ k, k < m → (cutL 10 s.data.toList).getD k [] = (bs.getD k ⟨#[]⟩).data.toList ∧ (bs.getD k ⟨#[]⟩).size ≤ 600) := Lib.hid (fun k hk => by
    have e1 := wd_ws bs k
    rw [hws] at e1
    refine ⟨e1, ?_⟩
    have hmem : wd (cutL 10 s.data.toList) k ∈ cutL 10 s.data.toList := by
      unfold wd
      rw [List.getD_eq_getElem?_getD, List.getElem?_eq_getElem (by omega), Option.getD_some]
      exact List.getElem_mem _
    have h9 := cutL_part 10 _ _ hmem
    rw [e1] at h9
    have h8 : (bs.getD k ⟨#[]⟩).data.toList.length = (bs.getD k ⟨#[]⟩).size := rfl
    have h7 : s.data.toList.length = s.size := rfl
    omega)
  have hm6 : m ≤ 601 := by
    have h7 : s.data.toList.length = s.size := rfl
    omega
  have HCm : Hid ((cutL 10 s.data.toList).length - 1 = m) := Lib.hid (by omega)
  have HM1 := Lib.hid hm
  have hz2 : w.heap.size + 1 < w2.heap.size := by
    obtain ⟨cs, fz, h⟩ := bF_heap HB3.out
    exact (Array.getElem?_eq_some_iff.1 h).1
  rw [hm]
  clear hws hSs hgt hm hwl hlp hll hss q1 k2 k3
  have q0 : IntKind.i64.wrap (((m : Int) + 1) - 1) = (m : Int) := by rw [IntWalk.i64_in _ (by omega)]; omega
  have q2 : (m : Int) ≤ (m : Int) + 1 := by omega
  have q3 : (0 : Int) ≤ (m : Int) := by omega
  go_wp2_with fail
  go_loopw [19] (fun i wr => ∃ (k : Nat) (rs : List R4) (out : List UInt8), k ≤ m ∧ i = .int .i64 k ∧ Hid (Run (cutL 10 s.data.toList) k rs out) ∧ Hid (Lib.IsBuilderF 37 5 (w.heap.size + 1) (w.heap.size + 1) (Lib.byteCells out) wr) ∧ Hid (SesT wr w.heap.size rs) ∧ Hid (SsT wr g bs) ∧ w.heap.size + 1 < wr.heap.size ∧ Keep w wr) (fun i _ => m - (intOf i).toNat)
  case atStart => exact ⟨0, [], [], by omega, rfl, Lib.hid .none, HB3, HS3, HSS, hz2, K3⟩
  case round =>
    obtain ⟨k, rs, out, hk, rfl, HRun, HB, HS, HSS2, hzr, hK⟩ := hrel
    obtain ⟨hr40, hout⟩ := run_bd HRun.out
    clear HSS HS3 HB3 HS0 HB0 HSp K3
    by_cases hlt : k < m
    · obtain ⟨hcg, hsz⟩ := HLs.out k hlt
      have cz := HSS2.out.1 k (by rw [HM1.out]; omega)
      have HCg := Lib.hid hcg
      clear hcg
      generalize bs.getD k ⟨#[]⟩ = ln at hsz cz HCg
      have HA := Lib.hid (answer_any w.heap.size ln rs wr (HT.out.keep hK) (HM.out.keep hK) HS.out hr40 hsz)
      have p1 : (0 : Int) ≤ (k : Int) := by omega
      have p2 : (k : Int) < (m : Int) := by omega
      go_wp2_with fail
      refine HA.out.mono ?_
      rintro e w3 ⟨t, rs2, rfl, hst, hS3, ho⟩
      obtain ⟨_, ht4⟩ := stp_bd hst hr40
      have hts : t.data.toList.length = t.size := rfl
      have HRun2 := Lib.hid (HRun.out.more (rs2 := rs2) (t := t.data.toList) (by rw [HCg.out]; exact hst))
      have HS3' := Lib.hid hS3
      have HB4 := Lib.hid (bF_only HB.out ho (by omega))
      have HSS4 := Lib.hid (HSS2.out.only HS.out ho)
      have hz3 : w.heap.size + 1 < w3.heap.size := Nat.lt_of_lt_of_le hzr ho.size
      have hK3 := Keep.trans' hK ho (Nat.le_refl _)
      have t1 : ¬ 9223372036854775807 < t.size + 1 := by omega
      have HWr : Hid (∀ c : ByteArray, c.data.toList = [10] → Calls Tryz.prog 22 #[.pointer (some ⟨w.heap.size + 1, 0, none⟩), .string (t ++ c)] w3 fun e w' => e = .returned (.tuple #[.int .i64 (t ++ c).size, .nilIface]) ∧ Lib.IsBuilderF 37 5 (w.heap.size + 1) (w.heap.size + 1) (Lib.byteCells (out ++ (t.data.toList ++ [10]))) w' ∧ Below (w.heap.size + 1) w3 w' ∧ Lib.OthersKept 5 (some (w.heap.size + 1)) w3 w') := Lib.hid (fun c hc => by
        have hcs : c.size = 1 := by
          have h8 : c.data.toList.length = 1 := by rw [hc]; rfl
          exact h8
        refine (write_any (w.heap.size + 1) (w.heap.size + 1) (Lib.byteCells out) (t ++ c) w3 HB4.out (by rw [Lib.byteCells_length, ByteArray.size_append, hcs]; omega) (by omega)).mono fun e w' h => ?_
        obtain ⟨he, hb, hl, hoth⟩ := h
        refine ⟨he, ?_, hl, hoth⟩
        have e1 : Lib.byteCells out ++ Lib.strCells (t ++ c) = Lib.byteCells (out ++ (t.data.toList ++ [10])) := by
          rw [Lib.strCells_eq]
          simp [Lib.byteCells, hc]
        rw [← e1]; exact hb)
      clear hst hS3 ho hts
      go_wp2_with fail
      refine (HWr.out _ rfl).mono ?_
      rintro e w4 ⟨rfl, hb4, hl4, hoth4⟩
      have hbh := bF_heap HB4.out
      have HS5 := Lib.hid (HS3'.out.oth hoth4 hl4.size (by omega) (notTy hbh (by decide)) (by decide) (by decide))
      have HSS5 := Lib.hid (HSS4.out.oth hoth4 (notTyS hbh HSS4.out))
      have HB5 := Lib.hid hb4
      have hK4 : Keep w w4 := Below.trans hK3 (Below.mono hl4 (by omega))
      have hz4 : w.heap.size + 1 < w4.heap.size := Nat.lt_of_lt_of_le hz3 hl4.size
      clear hb4 hl4 hoth4 hbh
      go_wp2
      go_roundw
      case rel => exact ⟨k + 1, rs2, _, by omega, by go_num, HRun2, HB5, HS5, HSS5, hz4, hK4⟩
      case measure => simp [intOf]; omega
    · obtain rfl : k = m := by omega
      have HEx : Hid (Exec s.data.toList (out ++ sReports ++ Lib.itoa (rs.length : Int) ++ [10])) := Lib.hid (.run HNL.out (by rw [HCm.out]; exact HRun.out))
      obtain ⟨a, cap, c0, _, _⟩ := ses_parts HS.out
      have hbh := bF_heap HB.out
      have HStr : Hid (Calls Tryz.prog 24 #[.pointer (some ⟨w.heap.size + 1, 0, none⟩)] wr.drew fun e w' => e = .returned (.string ⟨out.toArray⟩) ∧ Keep w w' ∧ w'.cell? ⟨w.heap.size, 0, none⟩ = some (.slice a rs.length cap)) := Lib.hid (by
        have hb : Lib.IsBuilderF 37 5 (w.heap.size + 1) (w.heap.size + 1) (Lib.byteCells out) wr.drew := bF_only HB.out ((Only.refl w.heap.size wr).drewN 1) (by omega)
        refine (Tryz.Builder_String_any_k (w.heap.size + 1) (w.heap.size + 1) out wr.drew hb (by show _ ≤ wr.heap.size; omega)).mono fun e w' h => ?_
        obtain ⟨he, _, hl, hoth⟩ := h
        refine ⟨he, Below.trans (hK.drewN 1) (Below.mono hl (by omega)), ?_⟩
        obtain ⟨cs, fz, hse⟩ := HS.out.1
        have h9 : w'.heap[w.heap.size]? = some (.cells cs 34 fz) := hoth _ _ hse (fun e => by injection e with e; omega) (fun c f e => by injection e with _ e _; revert e; decide)
        exact (World.cell?_of_block (w := wr) (h9.trans hse.symm)).trans c0)
      have HIt : Hid (∀ W, Keep w W → Calls Tryz.prog 25 #[.int .i64 (rs.length : Int)] W fun e w' => e = .returned (.string (dtx (rs.length : Int))) ∧ Keep W w') := Lib.hid (fun W hW => itoa_any _ W (HT.out.keep hW) (by omega) (by omega))
      have hds := dtx_ten (z := (rs.length : Int)) (by omega) (by omega)
      have HD : Hid ((dtx (rs.length : Int)).data.toList = Lib.itoa (rs.length : Int)) := Lib.hid (dtx_list _)
      generalize dtx (rs.length : Int) = u at HIt hds HD
      generalize hn : rs.length = n at *
      have hos : (⟨out.toArray⟩ : ByteArray).size = out.length := by simp [ByteArray.size]
      have HO : Hid ((⟨out.toArray⟩ : ByteArray).data.toList = out) := Lib.hid (by simp)
      have hol : out.length ≤ 300000 := by omega
      generalize (⟨out.toArray⟩ : ByteArray) = ob at HStr hos HO
      have t1 : ¬ 9223372036854775807 < ob.size + 8 := by omega
      have t2 : ¬ 9223372036854775807 < ob.size + 8 + u.size := by omega
      have t3 : ¬ 9223372036854775807 < ob.size + 8 + u.size + 1 := by omega
      clear HRun HB HS HSS2 hr40 hout hos hbh
      go_wp2_with fail
      have cd : wr.drew.cell? ⟨w.heap.size, 0, none⟩ = some (.slice a n cap) := c0
      have hKd : Keep w wr.drew := hK.drew
      go_region_held3 (fun w' => Keep w w' ∧ w'.cell? ⟨w.heap.size, 0, none⟩ = some (.slice a n cap))
        ((first | exact ⟨hKd, cd⟩ | exact ⟨hk8, hc8⟩ | exact ⟨hk8.trans hk9, hk9.cell hc8⟩))
        ((first
          | (go_at_call 24; go_split_ands; (with_reducible refine HStr.out.mono ?_); rintro e w8 ⟨rfl, hk8, hc8⟩; go_split_ands)
          | (go_at_call 25; go_split_ands; (with_reducible refine (HIt.out _ hk8).mono ?_); rintro e w9 ⟨rfl, hk9⟩; go_split_ands)))
      all_goals
        go_wp2
        go_ret
        refine ⟨_, rfl, ?_, hk8.trans hk9⟩
        have e9 := HEx.out
        rw [← HO.out, ← HD.out] at e9
        simpa [sReports] using e9
end Go.Proofs.YtnemdnidlbekbaaGreatDoor
namespace Go.Proofs.YtnemdnidlbekbaaGreatDoor
open Go.RowKit
set_option linter.unusedVariables false

set_option maxHeartbeats 1000000 in
theorem mday_any (z : Int) (w : World) (h0 : -99999 ≤ z) (h1 : z ≤ 99999) :
    Calls Tryz.prog 60 #[.int .i64 z] w fun e w' => e = .returned (.string (dyB z)) ∧ Keep w w' := by
  by_cases hz : z = -9999
  · subst hz
    go_enter Tryz.func60, Tryz.ntmps60
    go_wp2
    go_ret
    exact ⟨rfl, Keep.refl _⟩
  · have e : dyB z = dtx z := by simp [dyB, hz]
    rw [e]
    go_enter Tryz.func60, Tryz.ntmps60
    go_wp2_with fail
    refine (int_any z _ h0 h1).mono ?_
    rintro e w1 ⟨rfl, k1⟩
    go_wp2
    go_ret
    exact ⟨rfl, k1⟩
set_option maxRecDepth 100000 in
set_option maxHeartbeats 2000000 in
theorem row_any (a : Option Addr) (cap : Nat) (zs : List Int) (w : World) (h : Ls w a zs) (hm : zs.length ≤ 1048576) (hb : ∀ i, i < zs.length → -99999 ≤ zs.getD i 0 ∧ zs.getD i 0 ≤ 99999) :
    Calls Tryz.prog 38 #[.slice a zs.length cap] w (AnsP (lsT sValues (zs.map dyW) ++ [10]) w) := by
  have HB := Lib.hid hb
  clear hb
  go_enter Tryz.func38, Tryz.ntmps38
  go_wp2_with fail
  go_loopw [3, 4] (fun l i wr => ∃ (k : Nat) (s : ByteArray), k ≤ zs.length ∧ i = .int .i64 k ∧ l = .string s ∧ Hid (s.data.toList = lsT sValues ((zs.take k).map dyW)) ∧ s.size ≤ 1000 + 16 * k ∧ Keep w wr) (fun _ i _ => zs.length - (intOf i).toNat)
  case atStart => exact ⟨0, _, by omega, rfl, rfl, Lib.hid (by simp [lsT, sValues]), by decide, Keep.refl _⟩
  case round =>
    obtain ⟨k, s, hk, rfl, rfl, HS, hsz, hK⟩ := hrel
    by_cases hlt : k < zs.length
    · obtain ⟨b, off, rfl, hbb, cz⟩ := (h.keep hK).at_ hlt
      obtain ⟨h1, h2⟩ := HB.out k hlt
      have HN : Hid ((zs.take (k + 1)).map dyW = (zs.take k).map dyW ++ [dyW (zs.getD k 0)]) := Lib.hid (by
        rw [List.take_succ_eq_append_getElem hlt, List.map_append]
        simp [List.getD_eq_getElem?_getD, hlt])
      generalize zs.getD k 0 = z at *
      have HF := Lib.hid (fun W => mday_any z W h1 h2)
      have HU : Hid ((dyB z).data.toList = dyW z) := Lib.hid (dyB_list z)
      have hus : (dyB z).size ≤ 10 := dyB_size h1 h2
      generalize dyB z = u at HF HU hus
      have t1 : ¬ 9223372036854775807 < s.size + 1 := by omega
      have t2 : ¬ 9223372036854775807 < s.size + 1 + u.size := by omega
      have q1 : (0 : Int) ≤ (k : Int) := by omega
      have q2 : (k : Int) < (zs.length : Int) := by omega
      clear h1 h2
      go_wp2_with fail
      refine (HF.out _).mono ?_
      rintro e w1 ⟨rfl, k1⟩
      have HS2 : ∀ c : ByteArray, c.data.toList = [32] → Hid (((s ++ c) ++ u).data.toList = lsT sValues ((zs.take (k + 1)).map dyW)) := fun c hc => Lib.hid (by
        rw [HN.out, lsT_snoc, ← HS.out, ← HU.out]; simp [hc])
      have HS3 : ∀ c : ByteArray, c.data.toList = [32] → ((s ++ c) ++ u).size ≤ 1000 + 16 * (k + 1) := fun c hc => by
        have h9 : c.size = 1 := by
          have h8 : c.data.toList.length = 1 := by rw [hc]; rfl
          simpa using h8
        rw [ByteArray.size_append, ByteArray.size_append, h9]; omega
      go_wp2
      go_roundw
      case rel => exact ⟨k + 1, _, by omega, by go_num, rfl, HS2 _ rfl, HS3 _ rfl, hK.trans k1⟩
      case measure => simp [intOf]; omega
    · obtain rfl : k = zs.length := by omega
      have HF := Lib.hid (show s.data.toList = lsT sValues (zs.map dyW) by have := HS.out; rwa [List.take_length] at this)
      have t1 : ¬ 9223372036854775807 < s.size + 1 := by omega
      go_wp2
      go_ret
      exact ⟨_, rfl, by simp [HF.out], hK⟩
end Go.Proofs.YtnemdnidlbekbaaGreatDoor
namespace Go.Proofs.YtnemdnidlbekbaaGreatDoor
open Go.RowKit
set_option linter.unusedVariables false

theorem list_len (s : ByteArray) : s.data.toList.length = s.size := by simp
theorem list_head {s : ByteArray} (h : 0 < s.size) : s.data.toList.headD 0 = s[0] := by
  have h1 := List.drop_eq_getElem_cons (l := s.data.toList) (i := 0) (by simpa using h)
  rw [List.drop_zero] at h1
  rw [h1]; rfl
theorem digs_short {s : ByteArray} (h : ¬ (1 ≤ s.size ∧ s.size ≤ 5)) : digs s.data.toList = -1 := by
  have : digOk s.data.toList = false := by
    rw [digOk, list_len]
    by_cases h1 : 1 ≤ s.size
    · have : decide (s.size ≤ 5) = false := decide_eq_false (fun h2 => h ⟨h1, h2⟩)
      simp [this]
    · have : decide (1 ≤ s.size) = false := decide_eq_false h1
      simp [this]
  simp [digs, this]
theorem digs_zero {s : ByteArray} (h0 : 0 < s.size) (h : 1 < s.size) (hz : (s[0].toNat : Int) = 48) : digs s.data.toList = -1 := by
  have h48 : s[0].toNat = 48 := by omega
  have h49 : s[0] = 48 := UInt8.toNat_inj.1 h48
  have e : (s[0] == 48) = true := by rw [h49]; rfl
  have : digOk s.data.toList = false := by
    rw [digOk, list_len, list_head h0, e]
    simp [h]
  simp [digs, this]
theorem digs_bad {s : ByteArray} {k : Nat} (h : k < s.size) (hd : isDig s[k] = false) : digs s.data.toList = -1 := by
  have hm : s[k] ∈ s.data.toList := by
    have : s.data.toList[k]'(by simpa using h) = s[k] := rfl
    rw [← this]; exact List.getElem_mem _
  have ha : s.data.toList.all isDig = false := by
    rw [List.all_eq_false]
    exact ⟨_, hm, by simp [hd]⟩
  have : digOk s.data.toList = false := by rw [digOk, ha]; simp
  simp [digs, this]
theorem digs_good {s : ByteArray} (h0 : 1 ≤ s.size) (h5 : s.size ≤ 5) (hz : s.size = 1 ∨ ∃ h : 0 < s.size, (s[0].toNat : Int) ≠ 48) (ha : s.data.toList.all isDig = true) : digs s.data.toList = dval s.data.toList 0 := by
  have : digOk s.data.toList = true := by
    rw [digOk, list_len, ha]
    rcases hz with h | ⟨h, hz⟩
    · simp [h]
    · have e : (s[0] == 48) = false := by
        simp only [beq_eq_false_iff_ne, ne_eq]
        intro he
        rw [he] at hz
        exact hz rfl
      rw [list_head h, e]
      simp; omega
  simp [digs, this]
theorem take_next {s : ByteArray} {k : Nat} (h : k < s.size) : s.data.toList.take (k + 1) = s.data.toList.take k ++ [s[k]] := by
  rw [List.take_succ_eq_append_getElem (by simpa using h)]; rfl
theorem take_full {s : ByteArray} : s.data.toList.take s.size = s.data.toList := List.take_of_length_le (by simp)
theorem dig_of' {c : UInt8} (h1 : 48 ≤ (c.toNat : Int)) (h2 : (c.toNat : Int) ≤ 57) : isDig c = true := by simp [isDig]; omega
theorem dig_lo' {c : UInt8} (h1 : (c.toNat : Int) < 48) : isDig c = false := by simp [isDig]; omega
theorem dig_hi' {c : UInt8} (h1 : 57 < (c.toNat : Int)) : isDig c = false := by simp [isDig]; omega
theorem run_next' {s : ByteArray} {k : Nat} {v : Int} (h : k < s.size) (ha : (s.data.toList.take k).all isDig = true) (hv : v = dval (s.data.toList.take k) 0) (hc : isDig s[k] = true) :
    (s.data.toList.take (k + 1)).all isDig = true ∧ 10 * v + ((s[k].toNat : Int) - 48) = dval (s.data.toList.take (k + 1)) 0 := by
  rw [take_next h, List.all_append, ha, dval_append, ← hv]
  simp [hc, dval]
theorem dval_small (u : List UInt8) (h : u.all isDig = true) (h5 : u.length ≤ 5) : 0 ≤ dval u 0 ∧ dval u 0 ≤ 99999 := by
  refine ⟨dval_nonneg _ _ h (by omega), ?_⟩
  have h1 := dval_bound _ 0 h
  rcases (show u.length = 0 ∨ u.length = 1 ∨ u.length = 2 ∨ u.length = 3 ∨ u.length = 4 ∨ u.length = 5 by omega) with h | h | h | h | h | h <;> rw [h] at h1 <;> simp at h1 <;> omega

set_option maxHeartbeats 1000000 in
theorem sdigits_bad (s : ByteArray) (w : World) (hs : s.size ≤ 1048576) (h : ¬ (1 ≤ s.size ∧ s.size ≤ 5) ∨ (∃ h : 0 < s.size, 1 < s.size ∧ (s[0].toNat : Int) = 48)) :
    Calls Tryz.prog 58 #[.string s] w fun e w' => e = .returned (.int .i64 (-1)) ∧ w = w' := by
  by_cases hin : 1 ≤ s.size ∧ s.size ≤ 5
  · rcases h with h | ⟨h0, h1, hz⟩
    · exact absurd hin h
    · have hi : inB (s.size : Int) 1 5 = true := by simp [inB]; omega
      have h1d : decide (1 < (s.size : Int)) = true := by simp; omega
      have hzd : ((s[0].toNat : Int) == 48) = true := by simpa using hz
      have h0i : (0 : Int) < s.size := by omega
      clear hz hin
      go_enter Tryz.func58, Tryz.ntmps58
      go_wp2_with (go_at_call 65; refine (l6In_any _ _ _ _).mono ?_; rintro e w' ⟨rfl, rfl⟩)
      go_ret
      exact ⟨rfl, rfl⟩
  · have hi : inB (s.size : Int) 1 5 = false := by
      simp only [inB, Bool.and_eq_false_iff, decide_eq_false_iff_not]
      omega
    clear h hin
    go_enter Tryz.func58, Tryz.ntmps58
    go_wp2_with (go_at_call 65; refine (l6In_any _ _ _ _).mono ?_; rintro e w' ⟨rfl, rfl⟩)
    go_ret
    exact ⟨rfl, rfl⟩

set_option maxHeartbeats 2000000 in
theorem sdigits_in (s : ByteArray) (w : World) (h1 : 1 ≤ s.size) (h5 : s.size ≤ 5) (hz : s.size = 1 ∨ (1 < s.size ∧ ∃ h : 0 < s.size, (s[0].toNat : Int) ≠ 48)) :
    Calls Tryz.prog 58 #[.string s] w fun e w' => e = .returned (.int .i64 (digs s.data.toList)) ∧ w = w' := by
  have HZ := Lib.hid hz
  have hi : inB (s.size : Int) 1 5 = true := by simp [inB]; omega
  have h0i : (0 : Int) < s.size := by omega
  have h0 : 0 < s.size := by omega
  rcases hz with hz | ⟨hz, h, hne⟩
  case' inl =>
    have h1d : decide (1 < (s.size : Int)) = false := by simp; omega
    clear hz
    go_enter Tryz.func58, Tryz.ntmps58
    go_wp2_with (go_at_call 65; refine (l6In_any _ _ _ _).mono ?_; rintro e w' ⟨rfl, rfl⟩)
  case' inr =>
    have h1d : decide (1 < (s.size : Int)) = true := by simp; omega
    have hzd : ((s[0].toNat : Int) == 48) = false := by simpa using hne
    clear hz hne
    go_enter Tryz.func58, Tryz.ntmps58
    go_wp2_with (go_at_call 65; refine (l6In_any _ _ _ _).mono ?_; rintro e w' ⟨rfl, rfl⟩)
  all_goals
    go_loop [3, 4] (fun n i => ∃ (k : Nat) (v : Int), k ≤ s.size ∧ i = .int .i64 k ∧ n = .int .i64 v ∧ Hid ((s.data.toList.take k).all isDig = true) ∧ Hid (v = dval (s.data.toList.take k) 0)) (fun _ i => s.size - (intOf i).toNat)
    case atStart => exact ⟨0, 0, Nat.zero_le _, rfl, rfl, Lib.hid (by simp), Lib.hid (by simp [dval])⟩
    case round =>
      obtain ⟨k, v, hk, rfl, rfl, HA, HV⟩ := hrel
      obtain ⟨v0, v1⟩ : 0 ≤ v ∧ v ≤ 99999 := by rw [HV.out]; exact dval_small _ HA.out (by simp; omega)
      by_cases hlt : k < s.size
      · have hlti : (k : Int) < s.size := by omega
        by_cases hlo : (s[k].toNat : Int) < 48
        · have HD := Lib.hid (digs_bad hlt (dig_lo' hlo))
          go_wp2
          go_ret
          exact ⟨by rw [HD.out]; rfl, rfl⟩
        · by_cases hhi : 57 < (s[k].toNat : Int)
          · have HD := Lib.hid (digs_bad hlt (dig_hi' hhi))
            go_wp2
            go_ret
            exact ⟨by rw [HD.out]; rfl, rfl⟩
          · obtain ⟨na, nv⟩ := run_next' hlt HA.out HV.out (dig_of' (by omega) (by omega))
            have NA := Lib.hid na
            have NV := Lib.hid nv
            have hl2 : 48 ≤ (s[k].toNat : Int) := by omega
            have hh2 : (s[k].toNat : Int) ≤ 57 := by omega
            clear na nv
            go_wp2
            go_round
            case rel => exact ⟨k + 1, _, by omega, by go_num, rfl, NA, NV⟩
            case measure => simp [intOf]; omega
      · have hke : k = s.size := by omega
        have HD : Hid (v = digs s.data.toList) := Lib.hid (by
          have ha := HA.out
          have hv := HV.out
          rw [hke, take_full] at ha hv
          rw [hv]
          refine (digs_good h1 h5 ?_ ha).symm
          rcases HZ.out with h | ⟨_, h⟩
          · exact .inl h
          · exact .inr h)
        clear hke
        go_wp2
        go_ret
        exact ⟨by rw [← HD.out]; rfl, rfl⟩

theorem sdigits_any (s : ByteArray) (w : World) (hs : s.size ≤ 1048576) :
    Calls Tryz.prog 58 #[.string s] w fun e w' => e = .returned (.int .i64 (digs s.data.toList)) ∧ w = w' := by
  by_cases hin : 1 ≤ s.size ∧ s.size ≤ 5
  · have h0 : 0 < s.size := by omega
    by_cases h1 : s.size = 1
    · exact sdigits_in s w hin.1 hin.2 (.inl h1)
    · by_cases hz : (s[0].toNat : Int) = 48
      · rw [digs_zero h0 (by omega) hz]
        exact sdigits_bad s w hs (.inr ⟨h0, by omega, hz⟩)
      · exact sdigits_in s w hin.1 hin.2 (.inr ⟨by omega, h0, hz⟩)
  · rw [digs_short hin]
    exact sdigits_bad s w hs (.inl hin)
end Go.Proofs.YtnemdnidlbekbaaGreatDoor
namespace Go.Proofs.YtnemdnidlbekbaaGreatDoor
open Go.RowKit
set_option linter.unusedVariables false

set_option maxRecDepth 100000 in
set_option maxHeartbeats 2000000 in
theorem mmean_any (a : Option Addr) (cap : Nat) (zs : List Int) (gp : Int) (w : World) (h : Ls w a zs) (hm : zs.length ≤ 1048576) :
    Calls Tryz.prog 59 #[.slice a zs.length cap, .int .i64 gp] w (AnsP ((if meB zs gp then sMean ++ 32 :: Lib.itoa (meV zs gp) else sNo) ++ [10]) w) := by
  have HM := Lib.hid (me_spec a cap zs gp w h hm)
  rcases Bool.eq_false_or_eq_true (meB zs gp) with hb | hb
  case' inr =>
    rw [hb] at HM ⊢
    generalize meV zs gp = v at HM
    go_enter Tryz.func59, Tryz.ntmps59
    go_wp2_with fail
    refine HM.out.mono ?_
    rintro e w1 ⟨rfl, k1⟩
    go_wp2
    go_ret
    exact ⟨_, rfl, rfl, k1⟩
  obtain ⟨v1, v2⟩ := mz_bd hb
  rw [hb] at HM ⊢
  generalize meV zs gp = v at *
  have HI := Lib.hid (fun W => int_any v W (by omega) (by omega))
  have hus := dtx_ten (z := v) (by omega) (by omega)
  have t1 : ¬ 9223372036854775807 < 5 + (dtx v).size := by omega
  have t2 : ¬ 9223372036854775807 < 5 + (dtx v).size + 1 := by omega
  go_enter Tryz.func59, Tryz.ntmps59
  go_wp2_with fail
  refine HM.out.mono ?_
  rintro e w1 ⟨rfl, k1⟩
  go_wp2_with fail
  refine (HI.out _).mono ?_
  rintro e w2 ⟨rfl, k2⟩
  go_wp2
  go_ret
  exact ⟨_, rfl, by simp [sMean, dtx], k1.trans k2⟩
theorem digits_Z (s : ByteArray) (w : World) (hs : s.size ≤ 1048576) : Calls Tryz.prog 58 #[.string s] w fun e w' => e = .returned (.int .i64 (digs s.data.toList)) ∧ w = w' := sdigits_any s w hs
set_option maxRecDepth 100000 in
set_option maxHeartbeats 4000000 in
theorem mseries_any (g c : Nat) (a : Option Addr) (cap : Nat) (rs : List R4) (bs : List ByteArray) (w : World) (h : Rs w a rs) (hrm : rs.length ≤ 1048576) (hrc : rs.length ≤ cap) (hS : Ss w g bs) (h6 : 6 ≤ bs.length) (hm : bs.length ≤ 1048576) (hb : ∀ i, (bs.getD i ⟨#[]⟩).size ≤ 1048576) :
    Calls Tryz.prog 56 #[.slice a rs.length cap, .slice (some ⟨g, 0, none⟩) bs.length c] w (AkPost rs (ws bs) w) := by
  have c1 : w.cell? ⟨g, 1, none⟩ = some (.string (bs.getD 1 ⟨#[]⟩)) := hS 1 (by omega)
  have H1 : Hid (∀ (W : World), Calls Tryz.prog 58 #[.string (bs.getD 1 ⟨#[]⟩)] W fun e w' => e = .returned (.int .i64 (wn (ws bs) 1)) ∧ W = w') := Lib.hid (fun W => by have h9 := digits_Z (bs.getD 1 ⟨#[]⟩) W (hb 1); unfold wn; rw [wd_ws]; exact h9)
  have c2 : w.cell? ⟨g, 2, none⟩ = some (.string (bs.getD 2 ⟨#[]⟩)) := hS 2 (by omega)
  have H2 : Hid (∀ (W : World), Calls Tryz.prog 58 #[.string (bs.getD 2 ⟨#[]⟩)] W fun e w' => e = .returned (.int .i64 (wn (ws bs) 2)) ∧ W = w') := Lib.hid (fun W => by have h9 := digits_Z (bs.getD 2 ⟨#[]⟩) W (hb 2); unfold wn; rw [wd_ws]; exact h9)
  have c3 : w.cell? ⟨g, 3, none⟩ = some (.string (bs.getD 3 ⟨#[]⟩)) := hS 3 (by omega)
  have H3 : Hid (∀ (W : World), Calls Tryz.prog 58 #[.string (bs.getD 3 ⟨#[]⟩)] W fun e w' => e = .returned (.int .i64 (wn (ws bs) 3)) ∧ W = w') := Lib.hid (fun W => by have h9 := digits_Z (bs.getD 3 ⟨#[]⟩) W (hb 3); unfold wn; rw [wd_ws]; exact h9)
  have c4 : w.cell? ⟨g, 4, none⟩ = some (.string (bs.getD 4 ⟨#[]⟩)) := hS 4 (by omega)
  have H4 : Hid (∀ (W : World), Calls Tryz.prog 58 #[.string (bs.getD 4 ⟨#[]⟩)] W fun e w' => e = .returned (.int .i64 (wn (ws bs) 4)) ∧ W = w') := Lib.hid (fun W => by have h9 := digits_Z (bs.getD 4 ⟨#[]⟩) W (hb 4); unfold wn; rw [wd_ws]; exact h9)
  have HSS : Hid (∀ (W : World), Keep w W → Calls Tryz.prog 83 #[.slice a rs.length cap, .int .i64 (rs.length : Int), .int .i64 (wn (ws bs) 1), .int .i64 (wn (ws bs) 2), .int .i64 (wn (ws bs) 3), .int .i64 (wn (ws bs) 4)] W fun e w' => ∃ (a' : Option Addr) (c' : Nat), e = .returned (.tuple #[.slice a' (ssL rs (rs.length : Nat) (wn (ws bs) 1) (wn (ws bs) 2) (wn (ws bs) 3) (wn (ws bs) 4)).length c', .bool (ssOk rs (rs.length : Nat) (wn (ws bs) 1) (wn (ws bs) 2) (wn (ws bs) 3) (wn (ws bs) 4))]) ∧ Fresh w w' a' (ssL rs (rs.length : Nat) (wn (ws bs) 1) (wn (ws bs) 2) (wn (ws bs) 3) (wn (ws bs) 4)) ∧ Keep W w') := Lib.hid (fun W k => (ss_spec a cap rs (rs.length : Nat) _ _ _ _ W (h.keep k) (by omega) hrc).mono fun e w' ⟨a', c', he, hF, hk⟩ => ⟨a', c', he, freshZ hF k.size, hk⟩)
  unfold AkPost akL akOk
  generalize wn (ws bs) 1 = n1 at *
  generalize bs.getD 1 ⟨#[]⟩ = b1 at *
  generalize wn (ws bs) 2 = n2 at *
  generalize bs.getD 2 ⟨#[]⟩ = b2 at *
  generalize wn (ws bs) 3 = n3 at *
  generalize bs.getD 3 ⟨#[]⟩ = b3 at *
  generalize wn (ws bs) 4 = n4 at *
  generalize bs.getD 4 ⟨#[]⟩ = b4 at *
  generalize hn : rs.length = n at *
  have r1 : (1 : Int) < (bs.length : Int) := by omega
  have r2 : (2 : Int) < (bs.length : Int) := by omega
  have r3 : (3 : Int) < (bs.length : Int) := by omega
  have r4 : (4 : Int) < (bs.length : Int) := by omega
  have r5 : (5 : Int) < (bs.length : Int) := by omega
  clear hS hb h
  go_enter Tryz.func56, Tryz.ntmps56
  go_wp2_with fail
  refine (H2.out _).mono ?_
  rintro e w' ⟨rfl, rfl⟩
  go_wp2_with fail
  go_region_held3 (fun w' => Keep w w' ∧ w'.cell? ⟨g, 1, none⟩ = some (.string b1) ∧ w'.cell? ⟨g, 3, none⟩ = some (.string b3) ∧ w'.cell? ⟨g, 4, none⟩ = some (.string b4))
    ((go_split_ands; refine (fun hK => ⟨hK, hK.cell c1, hK.cell c3, hK.cell c4⟩ : Keep w _ → _) ?_; (repeat' (first | with_reducible assumption | with_reducible exact Keep.refl _ | with_reducible refine Keep.drew ?_ | with_reducible refine Keep.drewN ?_ _ | with_reducible refine Keep.alloc ?_ _ | with_reducible refine Keep.trans ?_ hk))))
    ((first
    | (go_at_call 58; go_split_ands; (with_reducible refine (H1.out _).mono ?_); rintro e w' ⟨rfl, rfl⟩; go_split_ands)
    | (go_at_call 58; go_split_ands; (with_reducible refine (H3.out _).mono ?_); rintro e w' ⟨rfl, rfl⟩; go_split_ands)
    | (go_at_call 58; go_split_ands; (with_reducible refine (H4.out _).mono ?_); rintro e w' ⟨rfl, rfl⟩; go_split_ands)
    | (go_at_call 83; go_split_ands; (with_reducible refine (HSS.out _ (by (repeat' (first | with_reducible assumption | with_reducible exact Keep.refl _ | with_reducible refine Keep.drew ?_ | with_reducible refine Keep.drewN ?_ _ | with_reducible refine Keep.alloc ?_ _ | with_reducible refine Keep.trans ?_ hk)))).mono ?_); rintro e w' ⟨a', c', rfl, hF, hk⟩; go_split_ands; have hK : Keep w w' := Keep.trans (by (repeat' (first | with_reducible assumption | with_reducible exact Keep.refl _ | with_reducible refine Keep.drew ?_ | with_reducible refine Keep.drewN ?_ _ | with_reducible refine Keep.alloc ?_ _ | with_reducible refine Keep.trans ?_ hk))) hk)))
  all_goals
    go_wp2
    go_ret2
    exact ⟨a', c', rfl, hF, by (repeat' (first | with_reducible assumption | with_reducible exact Keep.refl _ | with_reducible refine Keep.drew ?_ | with_reducible refine Keep.drewN ?_ _ | with_reducible refine Keep.alloc ?_ _ | with_reducible refine Keep.trans ?_ hk))⟩
end Go.Proofs.YtnemdnidlbekbaaGreatDoor
namespace Go.Proofs.YtnemdnidlbekbaaGreatDoor
open Go.RowKit
set_option linter.unusedVariables false

set_option maxRecDepth 100000 in
set_option maxHeartbeats 4000000 in
theorem mfill_any (a : Option Addr) (cap : Nat) (zs : List Int) (t st : Int) (w : World) (h : Ls w a zs) (hm : zs.length ≤ 12) :
    Calls Tryz.prog 57 #[.slice a zs.length cap, .int .i64 t, .int .i64 st] w (AnsP ((if gOk zs (kLo t) (kHi t) st then lsT sRanges ((gRL zs (kLo t) (kHi t) st).map rgW) else sNo) ++ [10]) w) := by
  have HF := Lib.hid (fun W (k : Keep w W) => fi_spec a cap zs (kLo t) (kHi t) st W (h.keep k) (by omega))
  have HGl := Lib.hid (fun h => gRL_bd (zs := zs) (lo := kLo t) (hi := kHi t) (st := st) h)
  have hgl := gRL_12 hm (kLo t) (kHi t) st
  have HKl := Lib.hid (fun W => kl_spec t W)
  unfold GpPost at HF
  generalize gRL zs (kLo t) (kHi t) st = L at *
  rcases Bool.eq_false_or_eq_true (gOk zs (kLo t) (kHi t) st) with hg | hg
  case' inr =>
    rw [hg] at HF ⊢
    generalize kLo t = lo at *
    generalize kHi t = hi at *
    generalize kOk t = ok at *
    go_enter Tryz.func57, Tryz.ntmps57
    go_wp2_with fail
    refine (HKl.out _).mono ?_
    rintro e w1 ⟨rfl, rfl⟩
    go_wp2_with fail
    refine (HF.out _ (Keep.refl _)).mono ?_
    rintro e w2 ⟨a2, c2, rfl, _, _, k2⟩
    go_wp2
    go_ret
    exact ⟨_, rfl, rfl, k2⟩
  have HB := Lib.hid (HGl.out hg)
  rw [hg] at HF ⊢
  clear HGl
  generalize kLo t = lo at *
  generalize kHi t = hi at *
  generalize kOk t = ok at *
  go_enter Tryz.func57, Tryz.ntmps57
  go_wp2_with fail
  refine (HKl.out _).mono ?_
  rintro e w1 ⟨rfl, rfl⟩
  go_wp2_with fail
  refine (HF.out _ (Keep.refl _)).mono ?_
  rintro e w2 ⟨a2, c2, rfl, _, hF2, k2⟩
  have hR := hF2.rr
  clear hF2
  go_wp2_with fail
  go_loopw [12, 13] (fun l i wr => ∃ (k : Nat) (s : ByteArray), k ≤ L.length ∧ i = .int .i64 k ∧ l = .string s ∧ Hid (s.data.toList = lsT sRanges ((L.take k).map rgW)) ∧ s.size ≤ 1000 + 30 * k ∧ Keep w2 wr) (fun _ i _ => L.length - (intOf i).toNat)
  case atStart => exact ⟨0, _, by omega, rfl, rfl, Lib.hid (by simp [lsT, sRanges]), by decide, Keep.refl _⟩
  case round =>
    obtain ⟨k, s, hk, rfl, rfl, HS, hsz, hK⟩ := hrel
    by_cases hlt : k < L.length
    · obtain ⟨b, off, rfl, hbb, ⟨c0, c1⟩⟩ := (hR.keep hK).at_ hlt
      have h1 := HB.out k hlt
      have HN : Hid ((L.take (k + 1)).map rgW = (L.take k).map rgW ++ [rgW (L.getD k u0)]) := Lib.hid (by
        rw [List.take_succ_eq_append_getElem hlt, List.map_append]
        simp [List.getD_eq_getElem?_getD, hlt])
      generalize L.getD k u0 = z at *
      obtain ⟨x, y⟩ := z
      simp only [uL, uH] at c0 c1
      obtain ⟨⟨x1, x2⟩, y1, y2⟩ := h1
      simp only at x1 x2 y1 y2
      have HX := Lib.hid (fun W => int_any x W x1 x2)
      have HY := Lib.hid (fun W => int_any y W y1 y2)
      have hxs : (dtx x).size ≤ 10 := dtx_ten x1 x2
      have hys : (dtx y).size ≤ 10 := dtx_ten y1 y2
      have HRW : Hid (rgW (x, y) = if x = y then (dtx x).data.toList else (dtx x).data.toList ++ 58 :: (dtx y).data.toList) := Lib.hid rfl
      generalize dtx x = u at *
      generalize dtx y = v at *
      have t1 : ¬ 9223372036854775807 < s.size + 1 := by omega
      have t2 : ¬ 9223372036854775807 < s.size + 1 + u.size := by omega
      have t3 : ¬ 9223372036854775807 < s.size + 1 + u.size + 1 := by omega
      have t4 : ¬ 9223372036854775807 < s.size + 1 + u.size + 1 + v.size := by omega
      have q1 : (0 : Int) ≤ (k : Int) := by omega
      have q2 : (k : Int) < (L.length : Int) := by omega
      clear x1 x2 y1 y2
      have ONE : ∀ (c : ByteArray) (q : UInt8), c.data.toList = [q] → c.size = 1 := fun c q hc => by
        have h8 : c.data.toList.length = 1 := by rw [hc]; rfl
        simpa using h8
      go_wp2_with fail
      refine (HX.out _).mono ?_
      rintro e w3 ⟨rfl, k3⟩
      have d0 := k3.cell c0
      have d1 := k3.cell c1
      by_cases hxy : x = y
      · subst hxy
        have HS2 : ∀ c : ByteArray, c.data.toList = [32] → Hid (((s ++ c) ++ u).data.toList = lsT sRanges ((L.take (k + 1)).map rgW)) := fun c hc => Lib.hid (by
          rw [HN.out, lsT_snoc, ← HS.out, HRW.out, if_pos rfl]; simp [hc])
        have HS3 : ∀ c : ByteArray, c.data.toList = [32] → ((s ++ c) ++ u).size ≤ 1000 + 30 * (k + 1) := fun c hc => by
          rw [ByteArray.size_append, ByteArray.size_append, ONE c _ hc]; omega
        go_wp2_with fail
        go_quiet (fail)
        go_wp2
        go_roundw
        case rel => exact ⟨k + 1, _, by omega, by go_num, rfl, HS2 _ rfl, HS3 _ rfl, (hK.trans k3).drewN nq⟩
        case measure => simp [intOf]; omega
      · have HS2 : ∀ c d : ByteArray, c.data.toList = [32] → d.data.toList = [58] → Hid (((((s ++ c) ++ u) ++ d) ++ v).data.toList = lsT sRanges ((L.take (k + 1)).map rgW)) := fun c d hc hd => Lib.hid (by
          rw [HN.out, lsT_snoc, ← HS.out, HRW.out, if_neg hxy]; simp [hc, hd])
        have HS3 : ∀ c d : ByteArray, c.data.toList = [32] → d.data.toList = [58] → ((((s ++ c) ++ u) ++ d) ++ v).size ≤ 1000 + 30 * (k + 1) := fun c d hc hd => by
          rw [ByteArray.size_append, ByteArray.size_append, ByteArray.size_append, ByteArray.size_append, ONE c _ hc, ONE d _ hd]; omega
        have hxy2 : (x != y) = true := bne_iff_ne.2 hxy
        go_wp2_with fail
        go_quiet (fail)
        have d1' : (w3.drewN nq).cell? ⟨b, off + k * 2 + 1, none⟩ = some (.int .i64 y) := ((Keep.refl w3).drewN nq).cell d1
        go_wp2_with fail
        refine (HY.out _).mono ?_
        rintro e w4 ⟨rfl, k4⟩
        go_wp2
        go_roundw
        case rel => exact ⟨k + 1, _, by omega, by go_num, rfl, HS2 _ _ rfl rfl, HS3 _ _ rfl rfl, ((hK.trans k3).drewN nq).trans k4⟩
        case measure => simp [intOf]; omega
    · obtain rfl : k = L.length := by omega
      have HFi := Lib.hid (show s.data.toList = lsT sRanges (L.map rgW) by have := HS.out; rwa [List.take_length] at this)
      have t1 : ¬ 9223372036854775807 < s.size + 1 := by omega
      go_wp2
      go_ret
      exact ⟨_, rfl, by simp [HFi.out], k2.trans hK⟩
end Go.Proofs.YtnemdnidlbekbaaGreatDoor
namespace Go.Proofs.YtnemdnidlbekbaaGreatDoor
open Go.RowKit
set_option linter.unusedVariables false

set_option maxRecDepth 100000 in
set_option maxHeartbeats 4000000 in
theorem mask_any (g c : Nat) (a : Option Addr) (cap : Nat) (rs : List R4) (bs : List ByteArray) (w : World) (h : Rs w a rs) (hrm : rs.length ≤ 1048576) (hrc : rs.length ≤ cap) (hS : Ss w g bs) (h6 : 6 ≤ bs.length) (hm : bs.length ≤ 1048576) (hb : ∀ i, (bs.getD i ⟨#[]⟩).size ≤ 1048576) :
    Calls Tryz.prog 37 #[.slice a rs.length cap, .slice (some ⟨g, 0, none⟩) bs.length c] w (AnsP (akT rs (ws bs) ++ [10]) w) := by
  have HA := Lib.hid (mseries_any g c a cap rs bs w h hrm hrc hS h6 hm hb)
  have r1 : (1 : Int) < (bs.length : Int) := by omega
  have r2 : (2 : Int) < (bs.length : Int) := by omega
  have r3 : (3 : Int) < (bs.length : Int) := by omega
  have r4 : (4 : Int) < (bs.length : Int) := by omega
  have r5 : (5 : Int) < (bs.length : Int) := by omega
  have c0 : w.cell? ⟨g, 0, none⟩ = some (.string (bs.getD 0 ⟨#[]⟩)) := hS 0 (by omega)
  have c2 : w.cell? ⟨g, 2, none⟩ = some (.string (bs.getD 2 ⟨#[]⟩)) := hS 2 (by omega)
  have H2 : Hid (∀ (W : World), Calls Tryz.prog 58 #[.string (bs.getD 2 ⟨#[]⟩)] W fun e w' => e = .returned (.int .i64 (wn (ws bs) 2)) ∧ W = w') := Lib.hid (fun W => by have h9 := digits_Z (bs.getD 2 ⟨#[]⟩) W (hb 2); unfold wn; rw [wd_ws]; exact h9)
  have c5 : w.cell? ⟨g, 5, none⟩ = some (.string (bs.getD 5 ⟨#[]⟩)) := hS 5 (by omega)
  have H5 : Hid (∀ (W : World), Calls Tryz.prog 58 #[.string (bs.getD 5 ⟨#[]⟩)] W fun e w' => e = .returned (.int .i64 (wn (ws bs) 5)) ∧ W = w') := Lib.hid (fun W => by have h9 := digits_Z (bs.getD 5 ⟨#[]⟩) W (hb 5); unfold wn; rw [wd_ws]; exact h9)
  have HW0 : Hid (wd (ws bs) 0 = (bs.getD 0 ⟨#[]⟩).data.toList) := Lib.hid (wd_ws bs 0)
  have hln := akL_len rs (ws bs)
  have HAk : Hid (akT rs (ws bs) = if akOk rs (ws bs) then (if wd (ws bs) 0 = sFill then flT rs (ws bs) else if wd (ws bs) 0 = sMean then meT rs (ws bs) else seT rs (ws bs)) else sNo) := Lib.hid rfl
  rcases Bool.eq_false_or_eq_true (akOk rs (ws bs)) with hk | hk
  case' inr =>
    have HL : Hid (akL rs (ws bs) = []) := Lib.hid (by unfold akL; exact ssL_no hk)
    unfold AkPost at HA
    rw [hk, HL.out] at HA
    rw [HAk.out, hk]
    clear HAk H2 H5
    go_enter Tryz.func37, Tryz.ntmps37
    go_wp2_with fail
    refine HA.out.mono ?_
    rintro e w1 ⟨a1, c1, rfl, _, k1⟩
    go_wp2
    go_ret
    exact ⟨_, rfl, rfl, k1⟩
  have HB := Lib.hid (akL_bd hk)
  unfold AkPost at HA
  rw [hk] at HA
  rw [HAk.out, hk, if_pos rfl, HW0.out]
  unfold flT meT seT
  have HFi := Lib.hid (fun a1 c1 W (hW : Ls W a1 (akL rs (ws bs))) => mfill_any a1 c1 (akL rs (ws bs)) (wn (ws bs) 2) (wn (ws bs) 5) W hW hln)
  have HMe := Lib.hid (fun a1 c1 W (hW : Ls W a1 (akL rs (ws bs))) => mmean_any a1 c1 (akL rs (ws bs)) (wn (ws bs) 5) W hW (by omega))
  have HRo := Lib.hid (fun a1 c1 W (hW : Ls W a1 (akL rs (ws bs))) => row_any a1 c1 (akL rs (ws bs)) W hW (by omega) HB.out)
  clear HAk HW0 hS hb h HB hk
  generalize wn (ws bs) 2 = n2 at *
  generalize wn (ws bs) 5 = n5 at *
  generalize akL rs (ws bs) = zs at *
  generalize bs.getD 0 ⟨#[]⟩ = b0 at *
  generalize bs.getD 2 ⟨#[]⟩ = b2 at *
  generalize bs.getD 5 ⟨#[]⟩ = b5 at *
  generalize (if gOk zs (kLo n2) (kHi n2) n5 then lsT sRanges ((gRL zs (kLo n2) (kHi n2) n5).map rgW) else sNo) = TF at *
  generalize (if meB zs n5 then sMean ++ 32 :: Lib.itoa (meV zs n5) else sNo) = TM at *
  by_cases e1 : b0.data.toList = sFill
  · rw [if_pos e1]
    have f1 : (b0.toList == [102, 105, 108, 108]) = true := by rw [Lib.toList_data, e1]; rfl
    clear e1
    go_enter Tryz.func37, Tryz.ntmps37
    go_wp2_with fail
    refine HA.out.mono ?_
    rintro e w1 ⟨a1, c1, rfl, hF, k1⟩
    have d0 := k1.cell c0
    have d2 := k1.cell c2
    have d5 := k1.cell c5
    have HF := Lib.hid hF
    clear hF c0 c2 c5
    go_wp2_with fail
    go_region_held3 (fun w' => Keep w1 w' ∧ w'.cell? ⟨g, 2, none⟩ = some (.string b2) ∧ w'.cell? ⟨g, 5, none⟩ = some (.string b5))
      ((go_split_ands; refine (fun hK => ⟨hK, hK.cell d2, hK.cell d5⟩ : Keep w1 _ → _) ?_; (repeat' (first | with_reducible assumption | with_reducible exact Keep.refl _ | with_reducible refine Keep.drew ?_ | with_reducible refine Keep.drewN ?_ _ | with_reducible refine Keep.alloc ?_ _ | with_reducible refine Keep.trans ?_ hk))))
      ((first
        | (go_at_call 58; go_split_ands; (with_reducible refine (H2.out _).mono ?_); rintro e w' ⟨rfl, rfl⟩; go_split_ands)
        | (go_at_call 58; go_split_ands; (with_reducible refine (H5.out _).mono ?_); rintro e w' ⟨rfl, rfl⟩; go_split_ands)
        | (go_at_call 57; go_split_ands; (with_reducible refine (HFi.out a1 c1 _ ((HF.out.keep (by (repeat' (first | with_reducible assumption | with_reducible exact Keep.refl _ | with_reducible refine Keep.drew ?_ | with_reducible refine Keep.drewN ?_ _ | with_reducible refine Keep.alloc ?_ _ | with_reducible refine Keep.trans ?_ hk)))).ls)).mono ?_); rintro e w' ⟨s, rfl, hs, hk⟩; go_split_ands; have hK : Keep w1 w' := Keep.trans (by (repeat' (first | with_reducible assumption | with_reducible exact Keep.refl _ | with_reducible refine Keep.drew ?_ | with_reducible refine Keep.drewN ?_ _ | with_reducible refine Keep.alloc ?_ _ | with_reducible refine Keep.trans ?_ hk))) hk; have HS := Lib.hid hs; clear hs)))
    all_goals
      go_wp2
      go_ret
      exact ⟨s, rfl, HS.out, k1.trans (by (repeat' (first | with_reducible assumption | with_reducible exact Keep.refl _ | with_reducible refine Keep.drew ?_ | with_reducible refine Keep.drewN ?_ _ | with_reducible refine Keep.alloc ?_ _ | with_reducible refine Keep.trans ?_ hk)))⟩
  · rw [if_neg e1]
    have f1 : (b0.toList == [102, 105, 108, 108]) = false := by rw [Lib.toList_data]; exact beq_eq_false_iff_ne.2 e1
    clear e1
    by_cases e2 : b0.data.toList = sMean
    · rw [if_pos e2]
      have f2 : (b0.toList == [109, 101, 97, 110]) = true := by rw [Lib.toList_data, e2]; rfl
      clear e2
      go_enter Tryz.func37, Tryz.ntmps37
      go_wp2_with fail
      refine HA.out.mono ?_
      rintro e w1 ⟨a1, c1, rfl, hF, k1⟩
      have d0 := k1.cell c0
      have d5 := k1.cell c5
      have HF := Lib.hid hF
      clear hF c0 c2 c5
      go_wp2_with fail
      refine (H5.out _).mono ?_
      rintro e w' ⟨rfl, rfl⟩
      go_wp2_with fail
      refine (HMe.out a1 c1 _ HF.out.ls).mono ?_
      rintro e w2 ⟨s, rfl, hs, k2⟩
      have HS := Lib.hid hs
      clear hs
      go_wp2
      go_ret
      exact ⟨s, rfl, HS.out, k1.trans k2⟩
    · rw [if_neg e2]
      have f2 : (b0.toList == [109, 101, 97, 110]) = false := by rw [Lib.toList_data]; exact beq_eq_false_iff_ne.2 e2
      clear e2
      go_enter Tryz.func37, Tryz.ntmps37
      go_wp2_with fail
      refine HA.out.mono ?_
      rintro e w1 ⟨a1, c1, rfl, hF, k1⟩
      have d0 := k1.cell c0
      have HF := Lib.hid hF
      clear hF c0 c2 c5
      go_wp2_with fail
      refine (HRo.out a1 c1 _ HF.out.ls).mono ?_
      rintro e w2 ⟨s, rfl, hs, k2⟩
      have HS := Lib.hid hs
      clear hs
      go_wp2
      go_ret
      exact ⟨s, rfl, HS.out, k1.trans k2⟩
end Go.Proofs.YtnemdnidlbekbaaGreatDoor
namespace Go.Proofs.YtnemdnidlbekbaaGreatDoor
open Go.RowKit
set_option linter.unusedVariables false

theorem digs_bounds (u : List UInt8) : -1 ≤ digs u ∧ digs u ≤ 99999 := by
  unfold digs
  by_cases h : digOk u = true
  · have := digOk_facts h; rw [if_pos h]; omega
  · rw [if_neg h]; omega
theorem digs_ok {u : List UInt8} (h : digOk u = true) : digs u = dval u 0 ∧ 0 ≤ digs u := by
  have := digOk_facts h; simp [digs, h]; omega
theorem digs_no {u : List UInt8} (h : digOk u = false) : digs u = -1 := by simp [digs, h]

theorem ext_tail (s : ByteArray) : (s.extract 1 s.size).data.toList = s.data.toList.tail := by
  rw [ByteArray.data_extract]
  simp
  exact List.take_of_length_le (by simp)
theorem ext_size (s : ByteArray) : (s.extract 1 s.size).size = s.size - 1 := by simp

/-- What the model answers for a number, good or not. -/
def numRaw (l : List UInt8) : Int := if l.headD 0 == 45 then -digs l.tail else digs l
theorem numRaw_ok {l : List UInt8} (h : numOk l = true) : numRaw l = numV l := by
  rcases numOk_cases h with ⟨t, rfl, h1, _⟩ | ⟨hc, h1⟩
  · have := (digs_ok h1).1
    simp [numRaw, numV, this]
  · have := (digs_ok h1).1
    rw [numRaw, numV, hc]; simpa using this
def SNum (l : List UInt8) (w : World) (e : Ending) (w' : World) : Prop := w = w' ∧ e = .returned (.tuple #[.int .i64 (numRaw l), .bool (numOk l)])

set_option maxHeartbeats 1000000 in
theorem snumber_any (s : ByteArray) (w : World) (hs : s.size ≤ 1048576) :
    Calls Tryz.prog 86 #[.string s] w (SNum s.data.toList w) := by
  have hb := digs_bounds s.data.toList
  by_cases h0 : s.size = 0
  · have hl : s.data.toList = [] := List.eq_nil_of_length_eq_zero (by rw [list_len]; exact h0)
    have HL : Hid (numOk s.data.toList = false) := Lib.hid (by rw [hl]; rfl)
    have HD : Hid (digs s.data.toList = -1) := Lib.hid (by rw [hl]; rfl)
    have HR : Hid (numRaw s.data.toList = -1) := Lib.hid (by rw [hl]; rfl)
    have h0d : decide (0 < s.size) = false := decide_eq_false (by omega)
    clear hl h0
    go_enter Tryz.func86, Tryz.ntmps86
    go_wp2_with fail
    (with_reducible refine (sdigits_any s _ hs).mono ?_)
    rintro e w' ⟨rfl, rfl⟩
    rw [HD.out]
    go_wp2
    go_ret2
    exact ⟨rfl, by rw [HL.out, HR.out]; rfl⟩
  · have hp : 0 < s.size := by omega
    have h0d : decide (0 < s.size) = true := decide_eq_true hp
    have h0i : (0 : Int) < s.size := by omega
    have h1i : (1 : Int) ≤ s.size := by omega
    have hh := list_head hp
    by_cases h45 : (s[0].toNat : Int) = 45
    · have hc : ((s[0].toNat : Int) == 45) = true := by simpa using h45
      have e45 : s[0] = 45 := UInt8.toNat_inj.1 (show s[0].toNat = 45 by omega)
      have hd : (s.data.toList.headD 0 == 45) = true := by rw [hh, e45]; rfl
      have HK : Hid (numOk s.data.toList = (digOk s.data.toList.tail && decide (0 < dval s.data.toList.tail 0)) ∧ numV s.data.toList = 0 - dval s.data.toList.tail 0) :=
        Lib.hid ⟨by unfold numOk; rw [if_pos hd], by unfold numV; rw [if_pos hd]⟩
      have HR : Hid (numRaw s.data.toList = -digs s.data.toList.tail) := Lib.hid (by unfold numRaw; rw [if_pos hd])
      obtain ⟨b1, b2⟩ := digs_bounds s.data.toList.tail
      clear h45 e45 hd hh hb
      go_enter Tryz.func86, Tryz.ntmps86
      go_wp2_with fail
      refine (sdigits_any (s.extract 1 s.size) _ (Nat.le_trans (by rw [ext_size]; exact Nat.sub_le _ _) hs)).mono ?_
      rintro e w' ⟨he, rfl⟩
      rw [ext_tail] at he
      subst he
      obtain ⟨v, hv⟩ : ∃ v : Int, Hid (digs s.data.toList.tail = v) := ⟨_, Lib.hid rfl⟩
      rw [hv.out] at b1 b2 ⊢
      go_wp2
      go_ret2
      have hb : numOk s.data.toList = decide (0 < v) := by
        rw [HK.out.1]
        rcases Bool.eq_false_or_eq_true (digOk s.data.toList.tail) with hk | hk
        · have h3 := (digs_ok hk).1
          rw [hv.out] at h3
          rw [hk, ← h3]
          simp
        · have h3 := digs_no hk
          rw [hv.out] at h3
          rw [hk, h3]
          simp
      exact ⟨rfl, by rw [hb, HR.out, hv.out]; rfl⟩
    · have hc : ((s[0].toNat : Int) == 45) = false := by simpa using h45
      have hd : (s.data.toList.headD 0 == 45) = false := by
        rw [hh]
        simp only [beq_eq_false_iff_ne, ne_eq]
        intro he
        rw [he] at h45
        exact h45 rfl
      have HK : Hid (numOk s.data.toList = digOk s.data.toList ∧ numV s.data.toList = dval s.data.toList 0) :=
        Lib.hid ⟨by unfold numOk; rw [if_neg (by rw [hd]; decide)], by unfold numV; rw [if_neg (by rw [hd]; decide)]⟩
      have HR : Hid (numRaw s.data.toList = digs s.data.toList) := Lib.hid (by unfold numRaw; rw [if_neg (by rw [hd]; decide)])
      obtain ⟨b1, b2⟩ := hb
      clear h45 hd hh
      go_enter Tryz.func86, Tryz.ntmps86
      go_wp2_with fail
      refine (sdigits_any s _ hs).mono ?_
      rintro e w' ⟨rfl, rfl⟩
      obtain ⟨v, hv⟩ : ∃ v : Int, Hid (digs s.data.toList = v) := ⟨_, Lib.hid rfl⟩
      rw [hv.out] at b1 b2 ⊢
      go_wp2
      go_ret2
      have hb : numOk s.data.toList = decide (0 ≤ v) := by
        rw [HK.out.1]
        rcases Bool.eq_false_or_eq_true (digOk s.data.toList) with hk | hk
        · have h3 := (digs_ok hk).2
          rw [hv.out] at h3
          rw [hk, decide_eq_true h3]
        · have h3 := digs_no hk
          rw [hv.out] at h3
          rw [hk, h3]
          rfl
      exact ⟨rfl, by rw [hb, HR.out, hv.out]; rfl⟩

/-- The number behind a word's first letter. -/
def wordOk (l : List UInt8) (x : UInt8) : Bool := match l with | c :: t => c == x && numOk t | [] => false
def wordRaw (l : List UInt8) (x : UInt8) : Int := match l with | c :: t => if c = x then numRaw t else 0 | [] => 0
def SWord (l : List UInt8) (x : UInt8) (w : World) (e : Ending) (w' : World) : Prop := w = w' ∧ e = .returned (.tuple #[.int .i64 (wordRaw l x), .bool (wordOk l x)])
theorem wordOk_cases {l : List UInt8} {x : UInt8} (h : wordOk l x = true) : ∃ t, l = x :: t ∧ numOk t = true ∧ wordRaw l x = numV t := by
  cases l with
  | nil => cases h
  | cons c t =>
    simp [wordOk] at h
    obtain ⟨rfl, h2⟩ := h
    exact ⟨t, rfl, h2, by simp [wordRaw, numRaw_ok h2]⟩
theorem wordOk_of {t : List UInt8} {x : UInt8} (h : numOk t = true) : wordOk (x :: t) x = true := by simp [wordOk, h]
theorem wordOk_no {l : List UInt8} {c x : UInt8} {t : List UInt8} (h : l = c :: t) (hne : c ≠ x) : wordOk l x = false := by simp [h, wordOk, hne]

set_option maxHeartbeats 1000000 in
theorem sword_any (s : ByteArray) (x : UInt8) (w : World) (hs : s.size ≤ 1048576) :
    Calls Tryz.prog 63 #[.string s, .int .u8 (x.toNat : Int)] w (SWord s.data.toList x w) := by
  by_cases h0 : s.size = 0
  · have hl : s.data.toList = [] := List.eq_nil_of_length_eq_zero (by rw [list_len]; exact h0)
    have HL : Hid (wordOk s.data.toList x = false) := Lib.hid (by rw [hl]; rfl)
    have HR : Hid (wordRaw s.data.toList x = 0) := Lib.hid (by rw [hl]; rfl)
    have he1 : s.toList.isEmpty = true := by rw [ByteArray.toList_eq, hl]; rfl
    have he2 : s.toList = [] := by rw [ByteArray.toList_eq, hl]
    have he3 : s.data.toList.isEmpty = true := by rw [hl]; rfl
    clear h0
    go_enter Tryz.func63, Tryz.ntmps63
    go_wp2
    go_ret2
    exact ⟨rfl, by rw [HL.out, HR.out]; rfl⟩
  · have hp : 0 < s.size := by omega
    have h0i : (0 : Int) < s.size := by omega
    have h1i : (1 : Int) ≤ s.size := by omega
    have hne : s.data.toList ≠ [] := by intro h; have := list_len s; rw [h] at this; simp at this; omega
    have hcons : s.data.toList = s[0] :: s.data.toList.tail := by
      have h1 := List.drop_eq_getElem_cons (l := s.data.toList) (i := 0) (by simpa using hp)
      rw [List.drop_zero] at h1
      have h2 : s.data.toList.tail = s.data.toList.drop 1 := by simp
      rw [h2]; exact h1
    have HC := Lib.hid hcons
    have he1 : s.toList.isEmpty = false := by rw [ByteArray.toList_eq]; simpa using hne
    have he3 : s.data.toList.isEmpty = false := by simpa using hne
    clear hcons hne h0
    by_cases hx : s[0] = x
    · have hxd : ((s[0].toNat : Int) != (x.toNat : Int)) = false := by rw [hx]; simp
      have HX := Lib.hid hx
      clear hx
      go_enter Tryz.func63, Tryz.ntmps63
      go_wp2_with fail
      refine (snumber_any (s.extract 1 s.size) _ (Nat.le_trans (by rw [ext_size]; exact Nat.sub_le _ _) hs)).mono ?_
      rintro e w' ⟨rfl, he⟩
      rw [ext_tail] at he
      subst he
      go_wp2
      go_ret2
      exact ⟨rfl, by rw [HC.out]; simp [wordOk, wordRaw, HX.out]⟩
    · have hxd : ((s[0].toNat : Int) != (x.toNat : Int)) = true := by
        simp only [bne_iff_ne, ne_eq]
        intro h
        exact hx (UInt8.toNat_inj.1 (by omega))
      have HX := Lib.hid hx
      clear hx
      have HW : Hid (wordOk s.data.toList x = false) := Lib.hid (by rw [HC.out]; simp [wordOk, HX.out])
      have HR : Hid (wordRaw s.data.toList x = 0) := Lib.hid (by rw [HC.out]; simp [wordRaw, HX.out])
      go_enter Tryz.func63, Tryz.ntmps63
      go_wp2
      go_ret2
      exact ⟨rfl, by rw [HW.out, HR.out]; rfl⟩
end Go.Proofs.YtnemdnidlbekbaaGreatDoor
namespace Go.Proofs.YtnemdnidlbekbaaGreatDoor
open Go.RowKit
set_option linter.unusedVariables false

def lett (j : Nat) : UInt8 := if j = 0 then 116 else if j = 1 then 114 else 112
theorem letter_lett {j : Nat} (h : j < 3) : letter (lett j) = j + 1 := by
  rcases (show j = 0 ∨ j = 1 ∨ j = 2 by omega) with rfl | rfl | rfl <;> rfl
theorem lett_letter {c : UInt8} (h : 1 ≤ letter c) : ∃ j, j < 3 ∧ c = lett j := by
  unfold letter at h
  by_cases h1 : c = 116
  · exact ⟨0, by omega, h1⟩
  · by_cases h2 : c = 114
    · exact ⟨1, by omega, h2⟩
    · by_cases h3 : c = 112
      · exact ⟨2, by omega, h3⟩
      · simp [h1, h2, h3] at h
theorem lett_ne {j : Nat} : lett j ≠ 32 := by unfold lett; split <;> (try split) <;> decide

theorem words_of_rep {l : List UInt8} {s d k v : Int} (h : Rep l s d k v) : ∃ a b e c, Words 32 l [115 :: a, 100 :: b, c :: e] ∧ numOk a = true ∧ numV a = s ∧ numOk b = true ∧ numV b = d ∧ letter c = k ∧ 1 ≤ k ∧ numOk e = true ∧ numV e = v := by
  obtain ⟨a, b, e, c, hl, h1, h2, h3, h4, h5, h6, h7, h8⟩ := (rep_words l s d k v).1 h
  refine ⟨a, b, e, c, ⟨[115 :: a, 100 :: b], c :: e, rfl, ?_, ?_⟩, h1, h2, h3, h4, h5, h6, h7, h8⟩
  · rw [hl]; simp [flat]
  · intro p hp
    simp only [List.mem_cons, List.not_mem_nil, or_false] at hp
    have hc : c ≠ 32 := by
      rintro rfl
      rw [← h5] at h6
      revert h6; decide
    rcases hp with rfl | rfl | rfl
    · simp [numOk_no h1]
    · simp [numOk_no h3]
    · simp [numOk_no h7, hc.symm]
theorem rep_len {l : List UInt8} {ps : List (List UInt8)} (hw : Words 32 l ps) (hn : ps.length ≠ 3) (s d k v : Int) : ¬ Rep l s d k v := by
  intro h
  obtain ⟨a, b, e, c, h1, _⟩ := words_of_rep h
  have := hw.unique h1
  rw [this] at hn
  simp at hn
theorem rep3_no {l p0 p1 p2 : List UInt8} (hw : Words 32 l [p0, p1, p2]) (hb : wordOk p0 115 = false ∨ wordOk p1 100 = false ∨ ∀ j, j < 3 → wordOk p2 (lett j) = false) (s d k v : Int) : ¬ Rep l s d k v := by
  intro h
  obtain ⟨a, b, e, c, h1, h2, _, h4, _, h6, h7, h8, _⟩ := words_of_rep h
  have := hw.unique h1
  simp only [List.cons.injEq, and_true] at this
  obtain ⟨rfl, rfl, rfl⟩ := this
  rcases hb with hb | hb | hb
  · rw [wordOk_of h2] at hb; cases hb
  · rw [wordOk_of h4] at hb; cases hb
  · obtain ⟨j, hj, rfl⟩ := lett_letter (c := c) (by rw [h6]; exact h7)
    have := hb j hj
    rw [wordOk_of h8] at this; cases this
theorem rep3_yes {l p0 p1 p2 : List UInt8} {j : Nat} (hw : Words 32 l [p0, p1, p2]) (h0 : wordOk p0 115 = true) (h1 : wordOk p1 100 = true) (hj : j < 3) (h2 : wordOk p2 (lett j) = true) :
    Rep l (wordRaw p0 115) (wordRaw p1 100) (j + 1) (wordRaw p2 (lett j)) := by
  obtain ⟨a, rfl, a1, a2⟩ := wordOk_cases h0
  obtain ⟨b, rfl, b1, b2⟩ := wordOk_cases h1
  obtain ⟨e, rfl, e1, e2⟩ := wordOk_cases h2
  obtain ⟨init, last, hp, hl, hn⟩ := hw
  have hi : init = [115 :: a, 100 :: b] ∧ last = lett j :: e := by
    have h3 := congrArg List.getLast? hp
    have h4 := congrArg List.dropLast hp
    simp at h3 h4
    exact ⟨h4.symm, h3.symm⟩
  rw [hi.1, hi.2] at hl
  refine (rep_words _ _ _ _ _).2 ⟨a, b, e, lett j, ?_, a1, a2.symm, b1, b2.symm, letter_lett hj, by omega, e1, e2.symm⟩
  rw [hl]; simp [flat]
theorem words_size {l : List UInt8} {ps : List (List UInt8)} (hw : Words 32 l ps) : ∀ p ∈ ps, p.length ≤ l.length := by
  obtain ⟨init, last, rfl, hl, _⟩ := hw
  have hf : ∀ (i : List (List UInt8)), ∀ p ∈ i, p.length ≤ (flat 32 i).length := by
    intro i
    induction i with
    | nil => simp
    | cons q r ih =>
      intro p hp
      simp only [List.mem_cons] at hp
      simp only [flat, List.length_append, List.length_cons]
      rcases hp with rfl | hp
      · omega
      · have := ih p hp; omega
  intro p hp
  rw [List.mem_append] at hp
  have h2 := congrArg List.length hl
  simp at h2
  rcases hp with hp | hp
  · have := hf init p hp; omega
  · simp at hp; rw [hp]; omega

/-- Kind and value behind k rounds over the letters. -/
def KV (p : List UInt8) (k : Nat) (K V : Int) : Prop :=
  (K = 0 ∧ V = 0 ∧ ∀ j, j < k → wordOk p (lett j) = false) ∨ ∃ j, j < k ∧ wordOk p (lett j) = true ∧ K = j + 1 ∧ V = wordRaw p (lett j)
theorem KV.miss {p : List UInt8} {k : Nat} {K V : Int} (h : KV p k K V) (hk : wordOk p (lett k) = false) : KV p (k + 1) K V := by
  rcases h with ⟨h1, h2, h3⟩ | ⟨j, h1, h2⟩
  · refine .inl ⟨h1, h2, fun j hj => ?_⟩
    by_cases e : j = k
    · rw [e]; exact hk
    · exact h3 j (by omega)
  · exact .inr ⟨j, by omega, h2⟩
theorem KV.hit {p : List UInt8} {k : Nat} (hk : wordOk p (lett k) = true) : KV p (k + 1) (k + 1) (wordRaw p (lett k)) := .inr ⟨k, by omega, hk, rfl, rfl⟩
theorem kv_zero {p : List UInt8} : KV p 0 0 0 := .inl ⟨rfl, rfl, fun j hj => by omega⟩
theorem rOk_kind (s d v : Int) : rOk s d 0 v = false := by simp [rOk, kOk]

theorem three {ps : List ByteArray} (h : ps.length = 3) : ∃ a b c, ps = [a, b, c] := by
  match ps, h with
  | [a, b, c], _ => exact ⟨a, b, c, rfl⟩

/-- What the loop over the letters keeps: the report that is made in block R, the last word in block g, the result's block. -/
structure PSt (w : World) (g R : Nat) (p2 : ByteArray) (n0 n1 K V : Int) (wr : World) : Prop where
  c0 : wr.cell? ⟨R, 0, none⟩ = some (.int .i64 n0)
  c1 : wr.cell? ⟨R, 1, none⟩ = some (.int .i64 n1)
  c2 : wr.cell? ⟨R, 2, none⟩ = some (.int .i64 K)
  c3 : wr.cell? ⟨R, 3, none⟩ = some (.int .i64 V)
  f2 : wr.frozen? ⟨R, 2, none⟩ = false
  f3 : wr.frozen? ⟨R, 3, none⟩ = false
  g2 : wr.cell? ⟨g, 2, none⟩ = some (.string p2)
  r : ∀ j, j < 4 → wr.cell? ⟨w.heap.size, j, none⟩ = some (.int .i64 0) ∧ wr.frozen? ⟨w.heap.size, j, none⟩ = false
  k : Keep w wr
theorem PSt.drewN {w wr : World} {g R : Nat} {p2 : ByteArray} {n0 n1 K V : Int} (h : PSt w g R p2 n0 n1 K V wr) (n : Nat) : PSt w g R p2 n0 n1 K V (wr.drewN n) :=
  ⟨h.c0, h.c1, h.c2, h.c3, h.f2, h.f3, h.g2, h.r, h.k.drewN n⟩
theorem PSt.put {w wr : World} {g R : Nat} {p2 : ByteArray} {n0 n1 K V : Int} (h : PSt w g R p2 n0 n1 K V wr) (hg : g ≠ R) (hR : w.heap.size < R) (K' V' : Int) :
    PSt w g R p2 n0 n1 K' V' ((wr.setCell ⟨R, 2, none⟩ (.int .i64 K')).setCell ⟨R, 3, none⟩ (.int .i64 V')) := by
  have ne : ∀ (b o o' : Nat), b ≠ R → (⟨R, o', none⟩ : Addr) ≠ ⟨b, o, none⟩ := fun b o o' hb h => by simp only [Addr.mk.injEq] at h; omega
  have no : ∀ (o o' : Nat), o ≠ o' → (⟨R, o', none⟩ : Addr) ≠ ⟨R, o, none⟩ := fun o o' ho h => by simp only [Addr.mk.injEq] at h; omega
  have oth : ∀ (b o : Nat), b ≠ R → ((wr.setCell ⟨R, 2, none⟩ (.int .i64 K')).setCell ⟨R, 3, none⟩ (.int .i64 V')).cell? ⟨b, o, none⟩ = wr.cell? ⟨b, o, none⟩ := fun b o hb => by
    rw [World.cell?_setCell_other _ _ _ _ (ne b o 3 hb), World.cell?_setCell_other _ _ _ _ (ne b o 2 hb)]
  refine ⟨?_, ?_, ?_, ?_, ?_, ?_, (oth g 2 hg).trans h.g2, fun j hj => ⟨(oth _ j (by omega)).trans (h.r j hj).1, ?_⟩, (h.k.setCell (by omega) _).setCell (by omega) _⟩
  · rw [World.cell?_setCell_other _ _ _ _ (no 0 3 (by omega)), World.cell?_setCell_other _ _ _ _ (no 0 2 (by omega))]; exact h.c0
  · rw [World.cell?_setCell_other _ _ _ _ (no 1 3 (by omega)), World.cell?_setCell_other _ _ _ _ (no 1 2 (by omega))]; exact h.c1
  · rw [World.cell?_setCell_other _ _ _ _ (no 2 3 (by omega))]; exact World.cell?_setCell_same _ _ _ h.c2
  · exact World.cell?_setCell_same _ _ _ (by rw [World.cell?_setCell_other _ _ _ _ (no 3 2 (by omega))]; exact h.c3)
  · rw [World.frozen?_setCell, World.frozen?_setCell]; exact h.f2
  · rw [World.frozen?_setCell, World.frozen?_setCell]; exact h.f3
  · rw [World.frozen?_setCell, World.frozen?_setCell]; exact (h.r j hj).2

theorem sword_q (s : ByteArray) (x : UInt8) (w : World) (hs : s.size ≤ 1048576) :
    Calls Tryz.prog 63 #[.string s, .int .u8 (x.toNat : Int)] w fun e w' => e = .returned (.tuple #[.int .i64 (wordRaw s.data.toList x), .bool (wordOk s.data.toList x)]) ∧ w' = w :=
  (sword_any s x w hs).mono fun e w' ⟨h1, h2⟩ => ⟨h2, h1.symm⟩

set_option maxRecDepth 100000 in
set_option maxHeartbeats 4000000 in
theorem rp_spec (s : ByteArray) (w : World) (hs : s.size ≤ 1048576) :
    Calls Tryz.prog 40 #[.string s] w fun e w' => Parsed s.data.toList e ∧ Keep w w' := by
  go_enter Tryz.func40, Tryz.ntmps40
  go_wp2_with fail
  refine (cut_any s 32 _ hs).mono ?_
  rintro e w1 ⟨ps, v, rfl, hown, hw, hk1, hv⟩
  have r0 : w1.cell? ⟨w.heap.size, 0, none⟩ = some (.int .i64 0) := hk1.cell (by go_simp)
  have f0 : w1.frozen? ⟨w.heap.size, 0, none⟩ = false := hk1.still (v := .int .i64 0) (by go_simp) (by go_simp)
  have r1 : w1.cell? ⟨w.heap.size, 1, none⟩ = some (.int .i64 0) := hk1.cell (by go_simp)
  have f1 : w1.frozen? ⟨w.heap.size, 1, none⟩ = false := hk1.still (v := .int .i64 0) (by go_simp) (by go_simp)
  have r2 : w1.cell? ⟨w.heap.size, 2, none⟩ = some (.int .i64 0) := hk1.cell (by go_simp)
  have f2 : w1.frozen? ⟨w.heap.size, 2, none⟩ = false := hk1.still (v := .int .i64 0) (by go_simp) (by go_simp)
  have r3 : w1.cell? ⟨w.heap.size, 3, none⟩ = some (.int .i64 0) := hk1.cell (by go_simp)
  have f3 : w1.frozen? ⟨w.heap.size, 3, none⟩ = false := hk1.still (v := .int .i64 0) (by go_simp) (by go_simp)
  have k1 : Keep w w1 := ((Keep.refl w).alloc _).trans hk1
  have hz0 : w.heap.size < w1.heap.size := World.block_lt_of_cell? w1 _ r0
  rcases hown.2 with ⟨h0, _⟩ | ⟨g, cap, cur, hv', hgb, hgh, hn, hcap, _, _⟩
  · exact absurd h0 hv
  subst hv'
  have HW := Lib.hid hw
  clear hw hv
  by_cases hlen : ps.length = 3
  case' neg =>
    have hld : ((ps.length : Int) != 3) = true := by simp; omega
    have HL := Lib.hid hlen
    clear hlen
    go_wp2
    refine bodyPost_ret (v := .tuple #[.agg #[.int .i64 0, .int .i64 0, .int .i64 0, .int .i64 0], .bool false]) (by simp [results, Tryz.results40, go_sem, *]) rfl ⟨.inr ⟨?_, rfl⟩, ?_⟩
    · intro s' d k v hr
      exact absurd hr (rep_len HW.out (by simpa using HL.out) _ _ _ _)
    · exact ((((k1.setCell (Nat.le_refl _) _).setCell (Nat.le_refl _) _).setCell (Nat.le_refl _) _).setCell (Nat.le_refl _) _)
  case' pos =>
    obtain ⟨p0, p1, p2, rfl⟩ := three hlen
    have hc0 : w1.cell? ⟨g, 0, none⟩ = some (.string p0) := hown.cellAt 0 (by simp)
    have hc1 : w1.cell? ⟨g, 1, none⟩ = some (.string p1) := hown.cellAt 1 (by simp)
    have hc2 : w1.cell? ⟨g, 2, none⟩ = some (.string p2) := hown.cellAt 2 (by simp)
    have hgz : g < w1.heap.size := World.block_lt_of_cell? w1 _ hc0
    have hsz := words_size HW.out
    have hp0 : p0.size ≤ 1048576 := by have := hsz p0.data.toList (by simp); simp at this; omega
    have hp1 : p1.size ≤ 1048576 := by have := hsz p1.data.toList (by simp); simp at this; omega
    have hp2 : p2.size ≤ 1048576 := by have := hsz p2.data.toList (by simp); simp at this; omega
    clear hsz hlen hn
    go_wp2_with fail
    refine (sword_any p0 115 _ hp0).mono ?_
    rintro e w' ⟨rfl, rfl⟩
    go_wp2_with fail
    refine (sword_any p1 100 _ hp1).mono ?_
    rintro e w' ⟨rfl, rfl⟩
    obtain ⟨n0, hn0⟩ : ∃ n : Int, Hid (wordRaw p0.data.toList 115 = n) := ⟨_, Lib.hid rfl⟩
    obtain ⟨n1, hn1⟩ : ∃ n : Int, Hid (wordRaw p1.data.toList 100 = n) := ⟨_, Lib.hid rfl⟩
    rw [hn0.out, hn1.out]
    go_wp2_with fail
    have hgR : g ≠ w1.heap.size := by omega
    have k2 : Keep w1 (w1.alloc (.cells #[.int .i64 n0, .int .i64 n1, .int .i64 0, .int .i64 0] 54)) := (Keep.refl w1).alloc _
    have hst : PSt w g w1.heap.size p2 n0 n1 0 0 (w1.alloc (.cells #[.int .i64 n0, .int .i64 n1, .int .i64 0, .int .i64 0] 54)) := by
      refine ⟨by go_simp, by go_simp, by go_simp, by go_simp, by go_simp, by go_simp, k2.cell hc2, fun j hj => ?_, k1.trans k2⟩
      rcases (show j = 0 ∨ j = 1 ∨ j = 2 ∨ j = 3 by omega) with rfl | rfl | rfl | rfl
      · exact ⟨k2.cell r0, k2.still r0 f0⟩
      · exact ⟨k2.cell r1, k2.still r1 f1⟩
      · exact ⟨k2.cell r2, k2.still r2 f2⟩
      · exact ⟨k2.cell r3, k2.still r3 f3⟩
    clear r0 r1 r2 r3 f0 f1 f2 f3 hc0 hc1 hc2 k2 hown hgh
    generalize w1.heap.size = R at hst hgR hz0 hgz ⊢
    go_loopw [11] (fun i wr => ∃ (k : Nat) (K V : Int), i = .int .i64 k ∧ k ≤ 3 ∧ Hid (KV p2.data.toList k K V) ∧ PSt w g R p2 n0 n1 K V wr) (fun i _ => 3 - (intOf i).toNat)
    case atStart => exact ⟨0, 0, 0, rfl, by omega, Lib.hid kv_zero, hst⟩
    case round =>
      obtain ⟨k, K, V, rfl, hk, HK, hps⟩ := hrel
      clear hst
      obtain ⟨c0, c1, c2, c3, f2, f3, g2, _, _⟩ := id hps
      rcases (show k = 0 ∨ k = 1 ∨ k = 2 ∨ k = 3 by omega) with rfl | rfl | rfl | rfl
      case' inl =>
        rcases Bool.eq_false_or_eq_true (wordOk p2.data.toList 116) with hok | hok
        case' inr =>
          have HM : Hid (KV p2.data.toList 1 K V) := Lib.hid (HK.out.miss hok)
          go_wp2_with fail
          go_quiet ((go_at_call 63; exact Calls.quiet_of_same (sword_q p2 116 _ hp2)))
          go_wp2
          go_roundw
          case rel => exact ⟨1, K, V, by first | rfl | go_num, by omega, HM, hps.drewN _⟩
          case measure => simp [intOf]
        case' inl =>
          have HM : Hid (KV p2.data.toList 1 1 (wordRaw p2.data.toList 116)) := Lib.hid (KV.hit (k := 0) hok)
          go_wp2_with fail
          go_quiet ((go_at_call 63; exact Calls.quiet_of_same (sword_q p2 116 _ hp2)))
          go_wp2
          go_roundw
          case rel => exact ⟨1, 1, _, by first | rfl | go_num, by omega, HM, (hps.drewN _).put hgR hz0 _ _⟩
          case measure => simp [intOf]
      case' inr.inl =>
        rcases Bool.eq_false_or_eq_true (wordOk p2.data.toList 114) with hok | hok
        case' inr =>
          have HM : Hid (KV p2.data.toList 2 K V) := Lib.hid (HK.out.miss hok)
          go_wp2_with fail
          go_quiet ((go_at_call 63; exact Calls.quiet_of_same (sword_q p2 114 _ hp2)))
          go_wp2
          go_roundw
          case rel => exact ⟨2, K, V, by first | rfl | go_num, by omega, HM, hps.drewN _⟩
          case measure => simp [intOf]
        case' inl =>
          have HM : Hid (KV p2.data.toList 2 2 (wordRaw p2.data.toList 114)) := Lib.hid (KV.hit (k := 1) hok)
          go_wp2_with fail
          go_quiet ((go_at_call 63; exact Calls.quiet_of_same (sword_q p2 114 _ hp2)))
          go_wp2
          go_roundw
          case rel => exact ⟨2, 2, _, by first | rfl | go_num, by omega, HM, (hps.drewN _).put hgR hz0 _ _⟩
          case measure => simp [intOf]
      case' inr.inr.inl =>
        rcases Bool.eq_false_or_eq_true (wordOk p2.data.toList 112) with hok | hok
        case' inr =>
          have HM : Hid (KV p2.data.toList 3 K V) := Lib.hid (HK.out.miss hok)
          go_wp2_with fail
          go_quiet ((go_at_call 63; exact Calls.quiet_of_same (sword_q p2 112 _ hp2)))
          go_wp2
          go_roundw
          case rel => exact ⟨3, K, V, by first | rfl | go_num, by omega, HM, hps.drewN _⟩
          case measure => simp [intOf]
        case' inl =>
          have HM : Hid (KV p2.data.toList 3 3 (wordRaw p2.data.toList 112)) := Lib.hid (KV.hit (k := 2) hok)
          go_wp2_with fail
          go_quiet ((go_at_call 63; exact Calls.quiet_of_same (sword_q p2 112 _ hp2)))
          go_wp2
          go_roundw
          case rel => exact ⟨3, 3, _, by first | rfl | go_num, by omega, HM, (hps.drewN _).put hgR hz0 _ _⟩
          case measure => simp [intOf]
      case' inr.inr.inr =>
        have kw := hps.k
        have r0 := (hps.r 0 (by omega)).1
        have f0' := (hps.r 0 (by omega)).2
        have r1 := (hps.r 1 (by omega)).1
        have f1' := (hps.r 1 (by omega)).2
        have r2 := (hps.r 2 (by omega)).1
        have f2' := (hps.r 2 (by omega)).2
        have r3 := (hps.r 3 (by omega)).1
        have f3' := (hps.r 3 (by omega)).2
        rcases Bool.eq_false_or_eq_true (wordOk p0.data.toList 115) with h0 | h0
        case' inr =>
          have H0 := Lib.hid h0
          go_wp2
          refine bodyPost_ret (v := .tuple #[.agg #[.int .i64 0, .int .i64 0, .int .i64 0, .int .i64 0], .bool false]) (by simp [results, Tryz.results40, go_sem, *]) rfl ⟨.inr ⟨?_, rfl⟩, ?_⟩
          · intro s' d k v hr
            exact absurd hr (rep3_no HW.out (.inl H0.out) _ _ _ _)
          · exact ((((kw.setCell (Nat.le_refl _) _).setCell (Nat.le_refl _) _).setCell (Nat.le_refl _) _).setCell (Nat.le_refl _) _)
        case' inl =>
          rcases Bool.eq_false_or_eq_true (wordOk p1.data.toList 100) with h1 | h1
          case' inr =>
            have H1 := Lib.hid h1
            go_wp2
            refine bodyPost_ret (v := .tuple #[.agg #[.int .i64 0, .int .i64 0, .int .i64 0, .int .i64 0], .bool false]) (by simp [results, Tryz.results40, go_sem, *]) rfl ⟨.inr ⟨?_, rfl⟩, ?_⟩
            · intro s' d k v hr
              exact absurd hr (rep3_no HW.out (.inr (.inl H1.out)) _ _ _ _)
            · exact ((((kw.setCell (Nat.le_refl _) _).setCell (Nat.le_refl _) _).setCell (Nat.le_refl _) _).setCell (Nat.le_refl _) _)
          case' inl =>
            have H0 := Lib.hid h0
            have H1 := Lib.hid h1
            go_wp2_with fail
            refine (rv_spec n0 n1 K V _).mono ?_
            rintro e w4 ⟨rfl, k4⟩
            have k4 : Keep wr w4 := k4
            have kw4 := kw.trans k4
            have x0 := k4.cell c0
            have x1 := k4.cell c1
            have x2 := k4.cell c2
            have x3 := k4.cell c3
            have s0 := k4.cell r0
            have t0 := k4.still r0 f0'
            have s1 := k4.cell r1
            have t1 := k4.still r1 f1'
            have s2 := k4.cell r2
            have t2 := k4.still r2 f2'
            have s3 := k4.cell r3
            have t3 := k4.still r3 f3'
            rcases Bool.eq_false_or_eq_true (rOk n0 n1 K V) with hv | hv
            case' inr =>
              have HV := Lib.hid hv
              go_wp2
              refine bodyPost_ret (v := .tuple #[.agg #[.int .i64 0, .int .i64 0, .int .i64 0, .int .i64 0], .bool false]) (by simp [results, Tryz.results40, go_sem, *]) rfl ⟨.inr ⟨?_, rfl⟩, ?_⟩
              · intro s' d k v hr
                rcases HK.out with ⟨e1, e2, e3⟩ | ⟨j, e1, e2, e3, e4⟩
                · exact absurd hr (rep3_no HW.out (.inr (.inr e3)) _ _ _ _)
                · have hy := rep3_yes HW.out H0.out H1.out e1 e2
                  rw [hn0.out, hn1.out, ← e3, ← e4] at hy
                  obtain ⟨rfl, rfl, rfl, rfl⟩ := hy.unique hr
                  exact HV.out
              · exact ((((kw4.setCell (Nat.le_refl _) _).setCell (Nat.le_refl _) _).setCell (Nat.le_refl _) _).setCell (Nat.le_refl _) _)
            case' inl =>
              have HV := Lib.hid hv
              go_wp2
              refine bodyPost_ret (v := .tuple #[.agg #[.int .i64 n0, .int .i64 n1, .int .i64 K, .int .i64 V], .bool true]) (by simp [results, Tryz.results40, go_sem, *]) rfl ⟨.inl ⟨n0, n1, K, V, ?_, HV.out, rfl⟩, ?_⟩
              · rcases HK.out with ⟨e1, e2, e3⟩ | ⟨j, e1, e2, e3, e4⟩
                · have := HV.out
                  rw [e1, rOk_kind] at this
                  cases this
                · have hy := rep3_yes HW.out H0.out H1.out e1 e2
                  rw [hn0.out, hn1.out, ← e3, ← e4] at hy
                  exact hy
              · exact ((((kw4.setCell (Nat.le_refl _) _).setCell (Nat.le_refl _) _).setCell (Nat.le_refl _) _).setCell (Nat.le_refl _) _)
end Go.Proofs.YtnemdnidlbekbaaGreatDoor
namespace Go.Proofs.YtnemdnidlbekbaaGreatDoor
open Go.RowKit
set_option linter.unusedVariables false

def LnPost (rs : List R4) (l : List UInt8) (w : World) (e : Ending) (w' : World) : Prop :=
  ∃ (g off c : Nat) (rs2 : List R4) (t : ByteArray) (t0 : List UInt8), e = .returned (.tuple #[.slice (some ⟨g, off, none⟩) rs2.length c, .string t]) ∧ t.data.toList = t0 ++ [10] ∧ Stp rs l rs2 t0 ∧ Rs w' (some ⟨g, off, none⟩) rs2 ∧ rs2.length ≤ c ∧ Keep w w'
def pad5 : List ByteArray := [⟨#[]⟩, ⟨#[]⟩, ⟨#[]⟩, ⟨#[]⟩, ⟨#[]⟩]
theorem wd_pad (ps : List ByteArray) (i : Nat) : wd (ws (ps ++ pad5)) i = wd (ws ps) i := by
  rw [wd_ws, wd_ws]
  by_cases h : i < ps.length
  · rw [List.getD_eq_getElem?_getD, List.getD_eq_getElem?_getD, List.getElem?_append_left h]
  · rw [List.getD_eq_getElem?_getD, List.getD_eq_getElem?_getD, List.getElem?_append_right (by omega), List.getElem?_eq_none (l := ps) (by omega)]
    have e : ∀ k : Nat, (pad5[k]?).getD ⟨#[]⟩ = (⟨#[]⟩ : ByteArray) := fun k => by
      rw [show pad5 = List.replicate 5 (⟨#[]⟩ : ByteArray) from rfl, List.getElem?_replicate]
      split <;> rfl
    rw [e]; rfl
theorem akT_ext {rs : List R4} {ps qs : List (List UInt8)} (h : ∀ i, wd ps i = wd qs i) : akT rs ps = akT rs qs := by
  have hn : ∀ i, wn ps i = wn qs i := fun i => by unfold wn; rw [h]
  unfold akT akOk flT meT seT akL
  rw [h 0, hn 1, hn 2, hn 3, hn 4, hn 5]
theorem chT_dy (rs : List R4) : lsT sValues ((scL rs).map dyW) = chT rs := by
  unfold chT
  congr 1
  refine List.map_congr_left fun x hx => ?_
  have := scL_bd rs x hx
  unfold dyW
  rw [if_neg (by omega)]
set_option maxRecDepth 100000 in
set_option maxHeartbeats 8000000 in
theorem mline_any (b off cap : Nat) (rs : List R4) (s : ByteArray) (w : World) (h : Rs w (some ⟨b, off, none⟩) rs) (hl : rs.length ≤ 40) (hc : rs.length ≤ cap) (hz : s.size ≤ 600) :
    Calls Tryz.prog 27 #[.slice (some ⟨b, off, none⟩) rs.length cap, .string s] w (LnPost rs s.data.toList w) := by
  obtain ⟨i0, hi, hz0, hz1, hz2⟩ := info_parts infoStr
  have hlist : s.data.toList.length = s.size := rfl
  have HR := Lib.hid h
  clear h
  go_enter Tryz.func27, Tryz.ntmps27
  go_wp2_with fail
  refine (cut_any s 32 _ (by omega)).mono ?_
  rintro e w1 ⟨ps, v, rfl, hown, hw, k1, _⟩
  have hwc : ws ps = cutL 32 s.data.toList := words_cutL hw
  have hp0 : 0 < ps.length := by
    have h1 := cutL_pos 32 s.data.toList
    rw [← hwc] at h1
    simpa only [ws, List.length_map] using h1
  have hpl : ps.length ≤ 601 := by
    have h1 := cutL_len 32 s.data.toList
    rw [← hwc] at h1
    simp only [ws, List.length_map] at h1
    omega
  have HC := Lib.hid hwc
  have hs1 := k1.size
  clear hw hwc hlist
  go_wp2_with (at_builtin; refine wpList_append_own _ rfl _ _ 38 rfl w.heap.size 9 i0 (.string ByteArray.empty) 1 16 Tryz.underlying38 hi hz0 hz1 hz2 rfl (by decide) _ _ _ rfl (hown.alloc _) ⟨w1.heap.size, 0, none⟩ 5 5 (pad5.map Value.string) rfl rfl ?c1a ?c2a ?c3a ?c4a ?c5a ?_)
  case c1a =>
    intro j u hj
    match j, hj with
    | 0, hj => simp [pad5] at hj; subst hj; simp [Addr.add]
    | 1, hj => simp [pad5] at hj; subst hj; simp [Addr.add]
    | 2, hj => simp [pad5] at hj; subst hj; simp [Addr.add]
    | 3, hj => simp [pad5] at hj; subst hj; simp [Addr.add]
    | 4, hj => simp [pad5] at hj; subst hj; simp [Addr.add]
  case c2a => intro u hu; simp [pad5] at hu; subst hu; rfl
  case c3a => unfold maxLen; omega
  case c4a => omega
  case c5a => simp; omega
  intro v' w2 hown' hgrow hnil
  obtain ⟨g, c, rfl, hbg, hlg⟩ := hown'.form (by omega)
  have k2 : Keep w w2 := Keep.grown' (k1.alloc _) hgrow (fun q hq => (hown.lt q hq).1)
  have hpad : (ps ++ pad5).length = ps.length + 5 := by simp [pad5]
  have hSs : Ss w2 g (ps ++ pad5) := fun i hi => by
    rw [World.ownsRow.cellAt hown' i (by omega), ← List.map_append, List.getElem?_map, List.getD_eq_getElem?_getD, List.getElem?_eq_getElem hi]
    rfl
  have hb : ∀ i, ((ps ++ pad5).getD i ⟨#[]⟩).size ≤ 1048576 := fun i => by
    have e1 := wd_pad ps i
    rw [wd_ws, HC.out] at e1
    have e2 : ((ps ++ pad5).getD i ⟨#[]⟩).data.toList.length = ((ps ++ pad5).getD i ⟨#[]⟩).size := rfl
    rw [e1] at e2
    by_cases hi : i < (cutL 32 s.data.toList).length
    · have h9 := cutL_part 32 s.data.toList (wd (cutL 32 s.data.toList) i) (by
        unfold wd; rw [List.getD_eq_getElem?_getD, List.getElem?_eq_getElem hi, Option.getD_some]; exact List.getElem_mem _)
      have h7 : s.data.toList.length = s.size := rfl
      omega
    · have h9 : wd (cutL 32 s.data.toList) i = [] := by unfold wd; rw [List.getD_eq_getElem?_getD, List.getElem?_eq_none (by omega)]; rfl
      rw [h9] at e2
      have e3 : (0 : Nat) = _ := e2
      omega
  have HA := Lib.hid (mask_any g c (some ⟨b, off, none⟩) cap rs (ps ++ pad5) w2 (HR.out.keep k2) (by omega) hc hSs (by omega) (by omega) hb)
  have HAk : Hid (akT rs (ws (ps ++ pad5)) = akT rs (cutL 32 s.data.toList)) := Lib.hid (akT_ext fun i => by rw [wd_pad, HC.out])
  have c0 : w2.cell? ⟨g, 0, none⟩ = some (.string ((ps ++ pad5).getD 0 ⟨#[]⟩)) := hSs 0 (by omega)
  have HW0 : Hid (wd (cutL 32 s.data.toList) 0 = ((ps ++ pad5).getD 0 ⟨#[]⟩).data.toList) := Lib.hid (by rw [← HC.out, ← wd_pad, wd_ws])
  rw [hpad] at HA
  rw [HAk.out] at HA
  have q0 : (0 : Int) < (ps.length : Int) + 5 := by omega
  clear hown hown' hgrow hnil hSs hb hpad HAk
  generalize (ps ++ pad5).getD 0 ⟨#[]⟩ = b0 at c0 HW0
  have HSt : Hid (isAsk b0.data.toList = true → Stp rs s.data.toList rs (akT rs (cutL 32 s.data.toList))) := Lib.hid (fun h => .ask (by rw [HW0.out]; exact h))
  have HNo : Hid (isAsk b0.data.toList = false → isAsk (wd (cutL 32 s.data.toList) 0) = false) := Lib.hid (fun h => by rw [HW0.out]; exact h)
  have HRp := Lib.hid (fun W => rp_spec s W (by omega))
  clear HW0 HC
  generalize akT rs (cutL 32 s.data.toList) = TA at *
  by_cases e1 : b0.data.toList = sSeries
  · have f1 : (b0.toList == [115, 101, 114, 105, 101, 115]) = true := by rw [Lib.toList_data, e1]; rfl
    have HS := Lib.hid (HSt.out (by rw [e1]; decide))
    clear e1
    go_wp2_with fail
    refine HA.out.mono ?_
    rintro e w3 ⟨t, rfl, ht, k3⟩
    have HT := Lib.hid ht
    clear ht
    go_wp2
    go_ret2
    exact ⟨b, off, cap, rs, t, TA, rfl, HT.out, HS.out, HR.out.keep (k2.trans k3), hc, k2.trans k3⟩
  have f1 : (b0.toList == [115, 101, 114, 105, 101, 115]) = false := by rw [Lib.toList_data]; exact beq_eq_false_iff_ne.2 e1
  by_cases e2 : b0.data.toList = sFill
  · have f2 : (b0.toList == [102, 105, 108, 108]) = true := by rw [Lib.toList_data, e2]; rfl
    have HS := Lib.hid (HSt.out (by rw [e2]; decide))
    clear e1 e2
    go_wp2_with fail
    refine HA.out.mono ?_
    rintro e w3 ⟨t, rfl, ht, k3⟩
    have HT := Lib.hid ht
    clear ht
    go_wp2
    go_ret2
    exact ⟨b, off, cap, rs, t, TA, rfl, HT.out, HS.out, HR.out.keep (k2.trans k3), hc, k2.trans k3⟩
  have f2 : (b0.toList == [102, 105, 108, 108]) = false := by rw [Lib.toList_data]; exact beq_eq_false_iff_ne.2 e2
  by_cases e3 : b0.data.toList = sMean
  · have f3 : (b0.toList == [109, 101, 97, 110]) = true := by rw [Lib.toList_data, e3]; rfl
    have HS := Lib.hid (HSt.out (by rw [e3]; decide))
    clear e1 e2 e3
    go_wp2_with fail
    refine HA.out.mono ?_
    rintro e w3 ⟨t, rfl, ht, k3⟩
    have HT := Lib.hid ht
    clear ht
    go_wp2
    go_ret2
    exact ⟨b, off, cap, rs, t, TA, rfl, HT.out, HS.out, HR.out.keep (k2.trans k3), hc, k2.trans k3⟩
  have f3 : (b0.toList == [109, 101, 97, 110]) = false := by rw [Lib.toList_data]; exact beq_eq_false_iff_ne.2 e3
  have HN := Lib.hid (HNo.out (by unfold isAsk; rw [decide_eq_false e1, decide_eq_false e2, decide_eq_false e3]; rfl))
  clear e1 e2 e3 HSt HNo HA
  by_cases hch : s.data.toList = sChanges
  · have f4 : (s.toList == [99, 104, 97, 110, 103, 101, 115]) = true := by rw [Lib.toList_data, hch]; rfl
    have HCh := Lib.hid hch
    clear hch
    have HSc := Lib.hid (sc_spec (some ⟨b, off, none⟩) cap rs w2 (HR.out.keep k2) (by omega) hc)
    have hB : Hid (∀ i, i < (scL rs).length → -99999 ≤ (scL rs).getD i 0 ∧ (scL rs).getD i 0 ≤ 99999) := Lib.hid (fun i hi => by
      have hm : (scL rs).getD i 0 ∈ scL rs := by
        rw [List.getD_eq_getElem?_getD, List.getElem?_eq_getElem hi, Option.getD_some]; exact List.getElem_mem hi
      have := scL_bd rs _ hm
      omega)
    have hln := scL_len rs
    go_wp2_with fail
    refine HSc.out.mono ?_
    rintro e w3 ⟨a3, c3, rfl, hF, k3⟩
    go_wp2_with fail
    refine (row_any a3 c3 (scL rs) w3 hF.ls (by omega) hB.out).mono ?_
    rintro e w4 ⟨t, rfl, ht, k4⟩
    have k5 := (k2.trans k3).trans k4
    have HT : Hid (t.data.toList = chT rs ++ [10]) := Lib.hid (by rw [ht, chT_dy])
    clear ht hF
    go_wp2
    go_ret2
    exact ⟨b, off, cap, rs, t, chT rs, rfl, HT.out, .changes HCh.out, HR.out.keep k5, hc, k5⟩
  have f4 : (s.toList == [99, 104, 97, 110, 103, 101, 115]) = false := by rw [Lib.toList_data]; exact beq_eq_false_iff_ne.2 hch
  have HCh := Lib.hid hch
  clear hch
  go_wp2_with fail
  refine (HRp.out _).mono ?_
  rintro e w3 ⟨hp, k3⟩
  have k4 := k2.trans k3
  rcases hp with ⟨sv, d, k, v, hrep, hrok, rfl⟩ | ⟨hno, rfl⟩
  · have hIs : Hid (IsRep s.data.toList (sv, d, k, v)) := Lib.hid ⟨hrep, hrok⟩
    clear hrep hrok
    have k5 : Keep w (w3.alloc (.cells #[.int .i64 sv, .int .i64 d, .int .i64 k, .int .i64 v] 54)) := k4.alloc _
    have HSa := Lib.hid (sad_spec b off cap rs sv d k v _ (HR.out.keep k5) (by omega) hc)
    cases hb : adB rs (sv, d, k, v)
    · unfold AdPost at HSa
      rw [hb] at HSa
      have HS := Lib.hid (Stp.full (rs := rs) _ hIs.out hb)
      clear hb
      go_wp2_with fail
      refine HSa.out.mono ?_
      rintro e w6 ⟨g6, c6, rfl, _, _, k6⟩
      have k7 := k5.trans k6
      go_wp2
      go_ret2
      exact ⟨b, off, cap, rs, _, sFull, rfl, rfl, HS.out, HR.out.keep k7, hc, k7⟩
    · unfold AdPost at HSa
      rw [hb] at HSa
      have HS := Lib.hid (Stp.add (rs := rs) _ hIs.out hb)
      clear hb
      generalize adL rs (sv, d, k, v) = L at *
      go_wp2_with fail
      refine HSa.out.mono ?_
      rintro e w6 ⟨g6, c6, rfl, hc6, hF6, k6⟩
      have k7 := k5.trans k6
      have HF := Lib.hid hF6
      clear hF6
      go_wp2
      go_ret2
      exact ⟨g6, 0, c6, L, _, sOk, rfl, rfl, HS.out, HF.out.rs, hc6, k7⟩
  · have HS : Hid (Stp rs s.data.toList rs sWhat) := Lib.hid (.what HN.out HCh.out (fun r h => by
      have h1 := hno _ _ _ _ h.1
      have h2 : rOk (rS r) (rD r) (rK r) (rV r) = true := h.2
      rw [h1] at h2; cases h2))
    clear hno
    have k5 : Keep w (w3.alloc (.cells #[.int .i64 0, .int .i64 0, .int .i64 0, .int .i64 0] 54)) := k4.alloc _
    go_wp2
    go_ret2
    exact ⟨b, off, cap, rs, _, sWhat, rfl, rfl, HS.out, HR.out.keep k5, hc, k5⟩
end Go.Proofs.YtnemdnidlbekbaaGreatDoor
namespace Go.Proofs.YtnemdnidlbekbaaGreatDoor
open Go.RowKit
set_option linter.unusedVariables false

set_option maxRecDepth 100000 in
set_option maxHeartbeats 8000000 in
theorem exec_spec (s : ByteArray) (w : World) : Calls Tryz.prog 14 #[.string s] w (ExPost s.data.toList w) := by
  have hse : s.data.toList.length = s.size := rfl
  by_cases hlong : 600 < s.size
  · have HX := Lib.hid (Exec.long (t := s.data.toList) (by rw [hse]; exact hlong))
    have q1 : (600 : Int) < (s.size : Int) := by omega
    go_enter Tryz.func14, Tryz.ntmps14
    go_wp2
    go_ret
    exact ⟨_, rfl, HX.out, Keep.refl _⟩
  have HNL : Hid (¬ 600 < s.data.toList.length) := Lib.hid (by rw [hse]; exact hlong)
  have q1 : ¬ (600 : Int) < (s.size : Int) := by omega
  have hss : s.size ≤ 600 := by omega
  go_enter Tryz.func14, Tryz.ntmps14
  go_wp2_with fail
  refine (cut_any s 10 _ (by omega)).mono ?_
  rintro e w1 ⟨ps, v, rfl, hown, hw, k1, _⟩
  have hwc : ws ps = cutL 10 s.data.toList := words_cutL hw
  have hlp := cutL_pos 10 s.data.toList
  have hll := cutL_len 10 s.data.toList
  have hwl : (cutL 10 s.data.toList).length = ps.length := by rw [← hwc]; simp [ws]
  obtain ⟨m, hm⟩ : ∃ m, ps.length = m + 1 := ⟨ps.length - 1, by omega⟩
  obtain ⟨g, c, rfl, hbg, hlg⟩ := hown.form (by omega)
  have HSs : Hid (Ss w1 g ps) := Lib.hid (fun i hi => by
    rw [World.ownsRow.cellAt hown i (by omega), List.getElem?_map, List.getD_eq_getElem?_getD, List.getElem?_eq_getElem hi]
    rfl)
  have HLs : Hid (∀ k, k < m → (cutL 10 s.data.toList).getD k [] = (ps.getD k ⟨#[]⟩).data.toList ∧ (ps.getD k ⟨#[]⟩).size ≤ 600) := Lib.hid (fun k hk => by
    have e1 := wd_ws ps k
    rw [hwc] at e1
    refine ⟨e1, ?_⟩
    have hmem : wd (cutL 10 s.data.toList) k ∈ cutL 10 s.data.toList := by
      unfold wd
      rw [List.getD_eq_getElem?_getD, List.getElem?_eq_getElem (by omega), Option.getD_some]
      exact List.getElem_mem _
    have h9 := cutL_part 10 _ _ hmem
    rw [e1] at h9
    have h8 : (ps.getD k ⟨#[]⟩).data.toList.length = (ps.getD k ⟨#[]⟩).size := rfl
    have h7 : s.data.toList.length = s.size := rfl
    omega)
  have hm6 : m ≤ 601 := by
    have h7 : s.data.toList.length = s.size := rfl
    omega
  have HCm : Hid ((cutL 10 s.data.toList).length - 1 = m) := Lib.hid (by omega)
  have HM1 := Lib.hid hm
  have K1 : Keep w w1 := ((Keep.refl w).alloc _).trans k1
  rw [hm]
  clear hown hw hwc hlp hll hwl hm hse hlong q1
  go_wp2_with fail
  go_loopw [3, 4, 6] (fun l o i wr => ∃ (k gg off cc : Nat) (rs : List R4) (out : ByteArray), k ≤ m ∧ i = .int .i64 k ∧ l = .slice (some ⟨gg, off, none⟩) rs.length cc ∧ o = .string out ∧ Hid (Run (cutL 10 s.data.toList) k rs out.data.toList) ∧ rs.length ≤ cc ∧ Hid (Rs wr (some ⟨gg, off, none⟩) rs) ∧ Keep w1 wr) (fun _ _ i _ => m - (intOf i).toNat)
  case atStart => exact ⟨0, w.heap.size, 0, 0, [], ⟨#[]⟩, by omega, rfl, rfl, rfl, Lib.hid .none, Nat.le_refl _, Lib.hid (.inl rfl), Keep.refl _⟩
  case round =>
    obtain ⟨k, gg, off, cc, rs, out, hk, rfl, rfl, rfl, HRun, hcc, HR, hK⟩ := hrel
    obtain ⟨hr40, hout⟩ := run_bd HRun.out
    have hos : out.data.toList.length = out.size := rfl
    by_cases hlt : k < m
    · obtain ⟨hcg, hsz⟩ := HLs.out k hlt
      have cz := hK.cell (HSs.out k (by rw [HM1.out]; omega))
      have HCg := Lib.hid hcg
      clear hcg
      generalize ps.getD k ⟨#[]⟩ = ln at hsz cz HCg
      have HA := Lib.hid (mline_any gg off cc rs ln wr HR.out hr40 hcc hsz)
      have p1 : (0 : Int) ≤ (k : Int) := by omega
      have p2 : (k : Int) < (m : Int) := by omega
      have p3 : (k : Int) < (m : Int) + 1 := by omega
      have p4 : (k : Int) + 1 < (m : Int) + 1 := by omega
      have p5 : IntKind.i64.wrap ((k : Int) + 1) = (k : Int) + 1 := IntWalk.i64_in _ (by omega)
      have t1 : ∀ t : ByteArray, t.size ≤ 451 → ¬ 9223372036854775807 < out.size + t.size := fun t h => by omega
      have HRun2 := Lib.hid HRun.out
      clear HRun hout hos HSs HLs HR
      go_wp2_with fail
      refine HA.out.mono ?_
      rintro e w2 ⟨g2, off2, c2, rs2, t, t0, rfl, ht, hst, hR2, hc2, k2⟩
      obtain ⟨_, ht4⟩ := stp_bd hst hr40
      have hts : t.size ≤ 451 := by
        have h9 : t.data.toList.length = t.size := rfl
        rw [ht, List.length_append, List.length_singleton] at h9
        omega
      have t2 := t1 t hts
      have HRun3 : Hid (Run (cutL 10 s.data.toList) (k + 1) rs2 (out ++ t).data.toList) := Lib.hid (by
        have h9 := HRun2.out.more (rs2 := rs2) (t := t0) (by rw [HCg.out]; exact hst)
        rw [← ht] at h9
        simpa using h9)
      have HR2 := Lib.hid hR2
      clear ht hst hR2 t1
      go_wp2
      go_roundw
      case rel => exact ⟨k + 1, g2, off2, c2, rs2, _, by omega, by go_num, rfl, rfl, HRun3, hc2, HR2, hK.trans k2⟩
      case measure => simp [intOf]; omega
    · obtain rfl : k = m := by omega
      have HEx : Hid (Exec s.data.toList (out.data.toList ++ sReports ++ Lib.itoa (rs.length : Int) ++ [10])) := Lib.hid (.run HNL.out (by rw [HCm.out]; exact HRun.out))
      have HD := Lib.hid (fun W => dec_any (rs.length : Int) W (by omega) (by omega))
      have hds := dtx_ten (z := (rs.length : Int)) (by omega) (by omega)
      have HDl : Hid ((dtx (rs.length : Int)).data.toList = Lib.itoa (rs.length : Int)) := Lib.hid (dtx_list _)
      generalize dtx (rs.length : Int) = u at *
      generalize hn : rs.length = n at *
      have hol : out.size ≤ 300000 := by omega
      have t1 : ¬ 9223372036854775807 < out.size + 8 := by omega
      have t2 : ¬ 9223372036854775807 < out.size + 8 + u.size := by omega
      have t3 : ¬ 9223372036854775807 < out.size + 8 + u.size + 1 := by omega
      have p5 : IntKind.i64.wrap ((k : Int) + 1) = (k : Int) + 1 := IntWalk.i64_in _ (by omega)
      have p4 : ¬ (k : Int) + 1 < (k : Int) + 1 := by omega
      clear HRun HR hr40 hout hos
      go_wp2_with fail
      refine (HD.out _).mono ?_
      rintro e w3 ⟨rfl, k3⟩
      go_wp2
      go_ret
      refine ⟨_, rfl, ?_, (K1.trans hK).trans k3⟩
      have e9 := HEx.out
      rw [← HDl.out] at e9
      simpa [sReports] using e9
end Go.Proofs.YtnemdnidlbekbaaGreatDoor
namespace Go.Proofs.YtnemdnidlbekbaaGreatDoor
open Go.RowKit Go.Lib
set_option linter.unusedVariables false

structure TabsZ (w : World) : Prop where
  tabs : Tabs w
  maxl : MaxL w
theorem TabsZ.keep {w w' : World} (h : TabsZ w) (k : Keep w w') : TabsZ w' := ⟨h.tabs.keep k, h.maxl.keep k⟩
theorem tabsZ_of_laid {W : World} (h : laidMetH Tryz.prog [("math/bits.deBruijn32tab", Rows.laid_math_bits_deBruijn32tab), ("math/bits.deBruijn64tab", Rows.laid_math_bits_deBruijn64tab), ("internal/strconv.uint64pow10", Rows.laid_internal_strconv_uint64pow10), ("unicode/utf8.acceptRanges", Rows.laid_unicode_utf8_acceptRanges), ("unicode/utf8.first", Rows.laid_unicode_utf8_first)] W) (hS : W.ShapedOpen Tryz.prog) : TabsZ W := by
  refine ⟨?_, cell_of_shapedOpen_int (zero := #[.int .i64 0]) (t := 3) hS (of_decide_eq_true (by kernel_rfl)) (by kernel_rfl) rfl (by kernel_rfl) (by kernel_rfl) Tryz.underlying3⟩
  have h' : laidMet Tryz.prog [("math/bits.deBruijn32tab", Rows.laid_math_bits_deBruijn32tab), ("math/bits.deBruijn64tab", Rows.laid_math_bits_deBruijn64tab), ("internal/strconv.uint64pow10", Rows.laid_internal_strconv_uint64pow10), ("unicode/utf8.acceptRanges", Rows.laid_unicode_utf8_acceptRanges), ("unicode/utf8.first", Rows.laid_unicode_utf8_first)] W := h
  obtain ⟨ps, ⟨_, _, _, _, _, _, _, _, _, _, ⟨_, _, _, _, _, _, _, _, _, _, ⟨g', t', cs, fuel, p, q, hg', ht', hvar, hd, _, _⟩, _⟩, _⟩, _⟩ := h'
  obtain rfl := Option.some.inj (gTab.symm.trans hg')
  obtain rfl := Option.some.inj (gTabType.symm.trans ht')
  rw [tabData_eq] at hd
  unfold Tabs TabIs
  rw [hvar, ← cells_of_tab Tryz.underlying132 Tryz.underlying108 cellsElt cellsTab hd]
/-- The cells of a laid table of pairs. -/
def laidPairs : DataW Unit → Array Value
  | .agg l => (l.flatMap fun d => (laidCells d).toList).toArray
  | _ => #[]
/-- A world that meets the list. -/
noncomputable def laidWorldZ (os : Os) : World :=
  { World.holding Tryz.prog os ⟨#[], #[], []⟩ with heap := (((((World.holding Tryz.prog os ⟨#[], #[], []⟩).heap.modify 4 (layAt (laidCells Rows.laid_math_bits_deBruijn32tab))).modify 5 (layAt (laidCells Rows.laid_math_bits_deBruijn64tab))).modify 1 (layAt (laidCells Rows.laid_internal_strconv_uint64pow10))).modify 3 (layAt (laidPairs Rows.laid_unicode_utf8_acceptRanges))).modify 2 (layAt (laidCells Rows.laid_unicode_utf8_first)) }
end Go.Proofs.YtnemdnidlbekbaaGreatDoor
namespace Go.Proofs.YtnemdnidlbekbaaGreatDoor
open Go.RowKit
set_option linter.unusedVariables false

theorem bytes_eqZ {a b : ByteArray} (h : a.data.toList = b.data.toList) : a = b := by
  obtain ⟨⟨l⟩⟩ := a
  obtain ⟨⟨m⟩⟩ := b
  simp only at h
  rw [h]
theorem Run.congr {ls ls' : List (List UInt8)} {n : Nat} {rs : List R4} {out : List UInt8} (h : Run ls n rs out) : (∀ k, k < n → ls.getD k [] = ls'.getD k []) → Run ls' n rs out := by
  induction h with
  | none => exact fun _ => .none
  | more hr hs ih =>
    intro hk
    refine .more (ih fun k hk' => hk k (by omega)) ?_
    rw [← hk _ (by omega)]; exact hs
theorem cutL_flat {x : UInt8} : ∀ (ps : List (List UInt8)) (r : List UInt8), (∀ p ∈ ps, x ∉ p) → cutL x (flat x ps ++ r) = ps ++ cutL x r
  | [], r, _ => rfl
  | p :: ps, r, h => by
    have h1 := cutL_flat ps r (fun q hq => h q (List.mem_cons_of_mem _ hq))
    show cutL x ((p ++ x :: flat x ps) ++ r) = _
    rw [List.append_assoc, List.cons_append, cutL_first _ (h p (by simp)), h1]
    rfl
/-- The complete lines of a script. -/
theorem cut_parts (x : UInt8) (l : List UInt8) : ∃ ps q, cutL x l = ps ++ [q] ∧ l = flat x ps ++ q ∧ (∀ p ∈ ps, x ∉ p) ∧ x ∉ q := by
  obtain ⟨i, a, h1, h2, h3⟩ := cutL_words x l
  exact ⟨i, a, h1, h2, fun p hp => h3 p (by rw [h1]; exact List.mem_append_left _ hp), h3 a (by rw [h1]; simp)⟩
theorem flat_end (x : UInt8) : ∀ ps : List (List UInt8), ps = [] ∨ ∃ t, flat x ps = t ++ [x]
  | [] => .inl rfl
  | p :: ps => by
    right
    rcases flat_end x ps with rfl | ⟨t, h⟩
    · exact ⟨p, rfl⟩
    · exact ⟨p ++ x :: t, by show p ++ x :: flat x ps = _; rw [h]; simp⟩
theorem exec_parts {l o : List UInt8} (h : Exec l o) (hl : ¬ 600 < l.length) : ∃ rs out, Run (cutL 10 l) ((cutL 10 l).length - 1) rs out ∧ o = out ++ sReports ++ Lib.itoa (rs.length : Int) ++ [10] := by
  cases h with
  | long h1 => exact absurd h1 hl
  | run _ hr => exact ⟨_, _, hr, rfl⟩
/-- A line without a newline is ignored. -/
theorem exec_cut {l o : List UInt8} {ps : List (List UInt8)} {q : List UInt8} (hl : ¬ 600 < l.length) (e1 : cutL 10 l = ps ++ [q]) (e2 : l = flat 10 ps ++ q) (hn : ∀ p ∈ ps, (10 : UInt8) ∉ p) (h : Exec l o) : Exec (flat 10 ps) o := by
  obtain ⟨rs, out, hr, rfl⟩ := exec_parts h hl
  have e3 : cutL 10 (flat 10 ps) = ps ++ [[]] := by have := cutL_flat ps [] hn; rwa [List.append_nil] at this
  have hlen : (flat 10 ps).length ≤ l.length := by rw [e2]; simp
  refine .run (by omega) ?_
  rw [e3]
  rw [e1] at hr
  have n1 : (ps ++ [q]).length - 1 = ps.length := by simp
  have n2 : (ps ++ [([] : List UInt8)]).length - 1 = ps.length := by simp
  rw [n1] at hr
  rw [n2]
  refine hr.congr fun k hk => ?_
  rw [List.getD_eq_getElem?_getD, List.getD_eq_getElem?_getD, List.getElem?_append_left hk, List.getElem?_append_left hk]
def sZ : List UInt8 := [122, 122, 122]
theorem isRep_no {l : List UInt8} (h : l.headD 0 ≠ 115) (r : R4) : ¬ IsRep l r := by
  rintro ⟨⟨t, rfl, _⟩, _⟩
  exact h rfl
theorem runOut_end {ls : List (List UInt8)} {n : Nat} {rs : List R4} {out : List UInt8} (h : Run ls n rs out) : out = [] ∨ ∃ t, out = t ++ [10] := by
  cases h with
  | none => exact .inl rfl
  | more _ _ => exact .inr ⟨_, (List.append_assoc _ _ _).symm⟩
/-- An unknown command changes nothing. -/
theorem exec_what {ps : List (List UInt8)} {y : List UInt8} (hn : ∀ p ∈ ps, (10 : UInt8) ∉ p) (hl : (flat 10 ps).length + 4 ≤ 600) (h : Exec (flat 10 ps) y) :
    ∃ out e0, y = out ++ (e0 ++ [10]) ∧ (10 : UInt8) ∉ e0 ∧ 0 < e0.length ∧ (out = [] ∨ ∃ t, out = t ++ [10]) ∧ Exec (flat 10 ps ++ (sZ ++ [10])) (out ++ (sWhat ++ [10]) ++ (e0 ++ [10])) := by
  obtain ⟨rs, out, hr, rfl⟩ := exec_parts h (by omega)
  have hd : (10 : UInt8) ∉ Lib.itoa (rs.length : Int) := by
    obtain ⟨h1, _⟩ := itoa_ok (n := (rs.length : Int)) (by omega) (by have := (run_bd hr).1; omega)
    rcases numOk_cases h1 with ⟨t, e, h2, _⟩ | ⟨_, h2⟩
    · rw [e]
      intro hm
      rcases List.mem_cons.1 hm with hm | hm
      · cases hm
      · exact absurd (List.all_eq_true.1 (digOk_facts h2).2.2.1 _ hm) (by decide)
    · intro hm
      exact absurd (List.all_eq_true.1 (digOk_facts h2).2.2.1 _ hm) (by decide)
  refine ⟨out, sReports ++ Lib.itoa (rs.length : Int), by simp, ?_, by simp [sReports], runOut_end hr, ?_⟩
  · intro hm
    rcases List.mem_append.1 hm with hm | hm
    · revert hm; decide
    · exact hd hm
  have e3 : cutL 10 (flat 10 ps) = ps ++ [[]] := by have := cutL_flat ps [] hn; rwa [List.append_nil] at this
  have e4 : cutL 10 (flat 10 ps ++ (sZ ++ [10])) = ps ++ [sZ, []] := by rw [cutL_flat ps _ hn]; rfl
  have n1 : (ps ++ [([] : List UInt8)]).length - 1 = ps.length := by simp
  have n2 : (ps ++ [sZ, []]).length - 1 = ps.length + 1 := by simp
  rw [e3, n1] at hr
  have hr2 : Run (ps ++ [sZ, []]) ps.length rs out := hr.congr fun k hk => by
    rw [List.getD_eq_getElem?_getD, List.getD_eq_getElem?_getD, List.getElem?_append_left hk, List.getElem?_append_left hk]
  have hz : (ps ++ [sZ, []]).getD ps.length [] = sZ := by simp [List.getD_eq_getElem?_getD]
  have hr3 : Run (ps ++ [sZ, []]) (ps.length + 1) rs (out ++ (sWhat ++ [10])) := hr2.more (by
    rw [hz]; exact .what (by decide) (by decide) (fun r => isRep_no (by decide) r))
  have hE := Exec.run (t := flat 10 ps ++ (sZ ++ [10])) (rs := rs) (out := out ++ (sWhat ++ [10])) (by simp [sZ]; omega) (by rw [e4, n2]; exact hr3)
  simpa using hE
theorem isRep_txt {l : List UInt8} {s d k v : Int} (h : rOk s d k v = true) (e : l = txt s d k v) : IsRep l (s, d, k, v) := ⟨by rw [e]; exact txt_rep h, h⟩
theorem no_rep {l : List UInt8} {s d k v : Int} (h : Rep l s d k v) (hb : rOk s d k v = false) (r : R4) : ¬ IsRep l r := by
  rintro ⟨h1, h2⟩
  obtain ⟨e1, e2, e3, e4⟩ := h.unique h1
  have h3 : rOk (rS r) (rD r) (rK r) (rV r) = true := h2
  rw [← e1, ← e2, ← e3, ← e4, hb] at h3
  cases h3
def tSeries : List UInt8 := [115, 49, 32, 100, 49, 32, 116, 45, 49, 53, 10, 115, 49, 32, 100, 51, 32, 116, 50, 48, 10, 115, 101, 114, 105, 101, 115, 32, 49, 32, 49, 32, 49, 32, 52, 10]
def oSeries : List UInt8 := [111, 107, 10, 111, 107, 10, 118, 97, 108, 117, 101, 115, 32, 45, 49, 53, 32, 45, 32, 50, 48, 32, 45, 10, 114, 101, 112, 111, 114, 116, 115, 32, 50, 10]
def tFill : List UInt8 := [115, 49, 32, 100, 49, 32, 116, 45, 49, 53, 10, 115, 49, 32, 100, 51, 32, 116, 50, 48, 10, 102, 105, 108, 108, 32, 49, 32, 49, 32, 49, 32, 51, 32, 51, 48, 10, 102, 105, 108, 108, 32, 49, 32, 49, 32, 49, 32, 51, 32, 49, 48, 10]
def oFill : List UInt8 := [111, 107, 10, 111, 107, 10, 114, 97, 110, 103, 101, 115, 32, 45, 49, 53, 32, 45, 49, 48, 58, 49, 53, 32, 50, 48, 10, 110, 111, 10, 114, 101, 112, 111, 114, 116, 115, 32, 50, 10]
def tMean : List UInt8 := [115, 49, 32, 100, 49, 32, 116, 45, 49, 53, 10, 115, 49, 32, 100, 51, 32, 116, 50, 48, 10, 109, 101, 97, 110, 32, 49, 32, 49, 32, 49, 32, 51, 32, 49, 10, 109, 101, 97, 110, 32, 49, 32, 49, 32, 49, 32, 51, 32, 48, 10]
def oMean : List UInt8 := [111, 107, 10, 111, 107, 10, 109, 101, 97, 110, 32, 50, 10, 110, 111, 10, 114, 101, 112, 111, 114, 116, 115, 32, 50, 10]
def tChanges : List UInt8 := [115, 49, 32, 100, 49, 32, 116, 53, 10, 115, 49, 32, 100, 49, 32, 116, 53, 10, 115, 49, 32, 100, 49, 32, 116, 54, 10, 99, 104, 97, 110, 103, 101, 115, 10]
def oChanges : List UInt8 := [111, 107, 10, 111, 107, 10, 111, 107, 10, 118, 97, 108, 117, 101, 115, 32, 50, 10, 114, 101, 112, 111, 114, 116, 115, 32, 51, 10]
def tBad : List UInt8 := [115, 49, 32, 100, 49, 32, 116, 54, 48, 49, 10, 115, 49, 48, 32, 100, 49, 32, 116, 53, 10, 115, 49, 32, 100, 48, 49, 32, 116, 53, 10, 115, 49, 32, 100, 49, 32, 116, 45, 48, 10]
def oBad : List UInt8 := [119, 104, 97, 116, 10, 119, 104, 97, 116, 10, 119, 104, 97, 116, 10, 119, 104, 97, 116, 10, 114, 101, 112, 111, 114, 116, 115, 32, 48, 10]
theorem execSeries : Exec tSeries oSeries := by
  have e1 : cutL 10 tSeries = [[115, 49, 32, 100, 49, 32, 116, 45, 49, 53], [115, 49, 32, 100, 51, 32, 116, 50, 48], [115, 101, 114, 105, 101, 115, 32, 49, 32, 49, 32, 49, 32, 52], []] := by decide
  have s0 : Stp [] [115, 49, 32, 100, 49, 32, 116, 45, 49, 53] [(1, 1, 1, (-15))] sOk := by
    have h := Stp.add (rs := []) (l := [115, 49, 32, 100, 49, 32, 116, 45, 49, 53]) (1, 1, 1, (-15)) (isRep_txt (by decide) (by kernel_rfl)) (by decide)
    have e : adL [] (1, 1, 1, (-15)) = [(1, 1, 1, (-15))] := by decide
    rwa [e] at h
  have s1 : Stp [(1, 1, 1, (-15))] [115, 49, 32, 100, 51, 32, 116, 50, 48] [(1, 1, 1, (-15)), (1, 3, 1, 20)] sOk := by
    have h := Stp.add (rs := [(1, 1, 1, (-15))]) (l := [115, 49, 32, 100, 51, 32, 116, 50, 48]) (1, 3, 1, 20) (isRep_txt (by decide) (by kernel_rfl)) (by decide)
    have e : adL [(1, 1, 1, (-15))] (1, 3, 1, 20) = [(1, 1, 1, (-15)), (1, 3, 1, 20)] := by decide
    rwa [e] at h
  have s2 : Stp [(1, 1, 1, (-15)), (1, 3, 1, 20)] [115, 101, 114, 105, 101, 115, 32, 49, 32, 49, 32, 49, 32, 52] [(1, 1, 1, (-15)), (1, 3, 1, 20)] [118, 97, 108, 117, 101, 115, 32, 45, 49, 53, 32, 45, 32, 50, 48, 32, 45] := by
    have h := Stp.ask (rs := [(1, 1, 1, (-15)), (1, 3, 1, 20)]) (l := [115, 101, 114, 105, 101, 115, 32, 49, 32, 49, 32, 49, 32, 52]) (by decide)
    have e : akT [(1, 1, 1, (-15)), (1, 3, 1, 20)] (cutL 32 [115, 101, 114, 105, 101, 115, 32, 49, 32, 49, 32, 49, 32, 52]) = [118, 97, 108, 117, 101, 115, 32, 45, 49, 53, 32, 45, 32, 50, 48, 32, 45] := by kernel_rfl
    rwa [e] at h
  have hr : Run [[115, 49, 32, 100, 49, 32, 116, 45, 49, 53], [115, 49, 32, 100, 51, 32, 116, 50, 48], [115, 101, 114, 105, 101, 115, 32, 49, 32, 49, 32, 49, 32, 52], []] 3 [(1, 1, 1, (-15)), (1, 3, 1, 20)] _ := (Run.more (Run.more (Run.more .none s0) s1) s2)
  have hE := Exec.run (t := tSeries) (by decide) (by rw [e1]; exact hr)
  have e2 : ∀ o, o = oSeries → Exec tSeries o → Exec tSeries oSeries := fun o e h => by rw [← e]; exact h
  exact e2 _ (by kernel_rfl) hE
theorem execFill : Exec tFill oFill := by
  have e1 : cutL 10 tFill = [[115, 49, 32, 100, 49, 32, 116, 45, 49, 53], [115, 49, 32, 100, 51, 32, 116, 50, 48], [102, 105, 108, 108, 32, 49, 32, 49, 32, 49, 32, 51, 32, 51, 48], [102, 105, 108, 108, 32, 49, 32, 49, 32, 49, 32, 51, 32, 49, 48], []] := by decide
  have s0 : Stp [] [115, 49, 32, 100, 49, 32, 116, 45, 49, 53] [(1, 1, 1, (-15))] sOk := by
    have h := Stp.add (rs := []) (l := [115, 49, 32, 100, 49, 32, 116, 45, 49, 53]) (1, 1, 1, (-15)) (isRep_txt (by decide) (by kernel_rfl)) (by decide)
    have e : adL [] (1, 1, 1, (-15)) = [(1, 1, 1, (-15))] := by decide
    rwa [e] at h
  have s1 : Stp [(1, 1, 1, (-15))] [115, 49, 32, 100, 51, 32, 116, 50, 48] [(1, 1, 1, (-15)), (1, 3, 1, 20)] sOk := by
    have h := Stp.add (rs := [(1, 1, 1, (-15))]) (l := [115, 49, 32, 100, 51, 32, 116, 50, 48]) (1, 3, 1, 20) (isRep_txt (by decide) (by kernel_rfl)) (by decide)
    have e : adL [(1, 1, 1, (-15))] (1, 3, 1, 20) = [(1, 1, 1, (-15)), (1, 3, 1, 20)] := by decide
    rwa [e] at h
  have s2 : Stp [(1, 1, 1, (-15)), (1, 3, 1, 20)] [102, 105, 108, 108, 32, 49, 32, 49, 32, 49, 32, 51, 32, 51, 48] [(1, 1, 1, (-15)), (1, 3, 1, 20)] [114, 97, 110, 103, 101, 115, 32, 45, 49, 53, 32, 45, 49, 48, 58, 49, 53, 32, 50, 48] := by
    have h := Stp.ask (rs := [(1, 1, 1, (-15)), (1, 3, 1, 20)]) (l := [102, 105, 108, 108, 32, 49, 32, 49, 32, 49, 32, 51, 32, 51, 48]) (by decide)
    have e : akT [(1, 1, 1, (-15)), (1, 3, 1, 20)] (cutL 32 [102, 105, 108, 108, 32, 49, 32, 49, 32, 49, 32, 51, 32, 51, 48]) = [114, 97, 110, 103, 101, 115, 32, 45, 49, 53, 32, 45, 49, 48, 58, 49, 53, 32, 50, 48] := by kernel_rfl
    rwa [e] at h
  have s3 : Stp [(1, 1, 1, (-15)), (1, 3, 1, 20)] [102, 105, 108, 108, 32, 49, 32, 49, 32, 49, 32, 51, 32, 49, 48] [(1, 1, 1, (-15)), (1, 3, 1, 20)] [110, 111] := by
    have h := Stp.ask (rs := [(1, 1, 1, (-15)), (1, 3, 1, 20)]) (l := [102, 105, 108, 108, 32, 49, 32, 49, 32, 49, 32, 51, 32, 49, 48]) (by decide)
    have e : akT [(1, 1, 1, (-15)), (1, 3, 1, 20)] (cutL 32 [102, 105, 108, 108, 32, 49, 32, 49, 32, 49, 32, 51, 32, 49, 48]) = [110, 111] := by kernel_rfl
    rwa [e] at h
  have hr : Run [[115, 49, 32, 100, 49, 32, 116, 45, 49, 53], [115, 49, 32, 100, 51, 32, 116, 50, 48], [102, 105, 108, 108, 32, 49, 32, 49, 32, 49, 32, 51, 32, 51, 48], [102, 105, 108, 108, 32, 49, 32, 49, 32, 49, 32, 51, 32, 49, 48], []] 4 [(1, 1, 1, (-15)), (1, 3, 1, 20)] _ := (Run.more (Run.more (Run.more (Run.more .none s0) s1) s2) s3)
  have hE := Exec.run (t := tFill) (by decide) (by rw [e1]; exact hr)
  have e2 : ∀ o, o = oFill → Exec tFill o → Exec tFill oFill := fun o e h => by rw [← e]; exact h
  exact e2 _ (by kernel_rfl) hE
theorem execMean : Exec tMean oMean := by
  have e1 : cutL 10 tMean = [[115, 49, 32, 100, 49, 32, 116, 45, 49, 53], [115, 49, 32, 100, 51, 32, 116, 50, 48], [109, 101, 97, 110, 32, 49, 32, 49, 32, 49, 32, 51, 32, 49], [109, 101, 97, 110, 32, 49, 32, 49, 32, 49, 32, 51, 32, 48], []] := by decide
  have s0 : Stp [] [115, 49, 32, 100, 49, 32, 116, 45, 49, 53] [(1, 1, 1, (-15))] sOk := by
    have h := Stp.add (rs := []) (l := [115, 49, 32, 100, 49, 32, 116, 45, 49, 53]) (1, 1, 1, (-15)) (isRep_txt (by decide) (by kernel_rfl)) (by decide)
    have e : adL [] (1, 1, 1, (-15)) = [(1, 1, 1, (-15))] := by decide
    rwa [e] at h
  have s1 : Stp [(1, 1, 1, (-15))] [115, 49, 32, 100, 51, 32, 116, 50, 48] [(1, 1, 1, (-15)), (1, 3, 1, 20)] sOk := by
    have h := Stp.add (rs := [(1, 1, 1, (-15))]) (l := [115, 49, 32, 100, 51, 32, 116, 50, 48]) (1, 3, 1, 20) (isRep_txt (by decide) (by kernel_rfl)) (by decide)
    have e : adL [(1, 1, 1, (-15))] (1, 3, 1, 20) = [(1, 1, 1, (-15)), (1, 3, 1, 20)] := by decide
    rwa [e] at h
  have s2 : Stp [(1, 1, 1, (-15)), (1, 3, 1, 20)] [109, 101, 97, 110, 32, 49, 32, 49, 32, 49, 32, 51, 32, 49] [(1, 1, 1, (-15)), (1, 3, 1, 20)] [109, 101, 97, 110, 32, 50] := by
    have h := Stp.ask (rs := [(1, 1, 1, (-15)), (1, 3, 1, 20)]) (l := [109, 101, 97, 110, 32, 49, 32, 49, 32, 49, 32, 51, 32, 49]) (by decide)
    have e : akT [(1, 1, 1, (-15)), (1, 3, 1, 20)] (cutL 32 [109, 101, 97, 110, 32, 49, 32, 49, 32, 49, 32, 51, 32, 49]) = [109, 101, 97, 110, 32, 50] := by kernel_rfl
    rwa [e] at h
  have s3 : Stp [(1, 1, 1, (-15)), (1, 3, 1, 20)] [109, 101, 97, 110, 32, 49, 32, 49, 32, 49, 32, 51, 32, 48] [(1, 1, 1, (-15)), (1, 3, 1, 20)] [110, 111] := by
    have h := Stp.ask (rs := [(1, 1, 1, (-15)), (1, 3, 1, 20)]) (l := [109, 101, 97, 110, 32, 49, 32, 49, 32, 49, 32, 51, 32, 48]) (by decide)
    have e : akT [(1, 1, 1, (-15)), (1, 3, 1, 20)] (cutL 32 [109, 101, 97, 110, 32, 49, 32, 49, 32, 49, 32, 51, 32, 48]) = [110, 111] := by kernel_rfl
    rwa [e] at h
  have hr : Run [[115, 49, 32, 100, 49, 32, 116, 45, 49, 53], [115, 49, 32, 100, 51, 32, 116, 50, 48], [109, 101, 97, 110, 32, 49, 32, 49, 32, 49, 32, 51, 32, 49], [109, 101, 97, 110, 32, 49, 32, 49, 32, 49, 32, 51, 32, 48], []] 4 [(1, 1, 1, (-15)), (1, 3, 1, 20)] _ := (Run.more (Run.more (Run.more (Run.more .none s0) s1) s2) s3)
  have hE := Exec.run (t := tMean) (by decide) (by rw [e1]; exact hr)
  have e2 : ∀ o, o = oMean → Exec tMean o → Exec tMean oMean := fun o e h => by rw [← e]; exact h
  exact e2 _ (by kernel_rfl) hE
theorem execChanges : Exec tChanges oChanges := by
  have e1 : cutL 10 tChanges = [[115, 49, 32, 100, 49, 32, 116, 53], [115, 49, 32, 100, 49, 32, 116, 53], [115, 49, 32, 100, 49, 32, 116, 54], [99, 104, 97, 110, 103, 101, 115], []] := by decide
  have s0 : Stp [] [115, 49, 32, 100, 49, 32, 116, 53] [(1, 1, 1, 5)] sOk := by
    have h := Stp.add (rs := []) (l := [115, 49, 32, 100, 49, 32, 116, 53]) (1, 1, 1, 5) (isRep_txt (by decide) (by kernel_rfl)) (by decide)
    have e : adL [] (1, 1, 1, 5) = [(1, 1, 1, 5)] := by decide
    rwa [e] at h
  have s1 : Stp [(1, 1, 1, 5)] [115, 49, 32, 100, 49, 32, 116, 53] [(1, 1, 1, 5), (1, 1, 1, 5)] sOk := by
    have h := Stp.add (rs := [(1, 1, 1, 5)]) (l := [115, 49, 32, 100, 49, 32, 116, 53]) (1, 1, 1, 5) (isRep_txt (by decide) (by kernel_rfl)) (by decide)
    have e : adL [(1, 1, 1, 5)] (1, 1, 1, 5) = [(1, 1, 1, 5), (1, 1, 1, 5)] := by decide
    rwa [e] at h
  have s2 : Stp [(1, 1, 1, 5), (1, 1, 1, 5)] [115, 49, 32, 100, 49, 32, 116, 54] [(1, 1, 1, 5), (1, 1, 1, 5), (1, 1, 1, 6)] sOk := by
    have h := Stp.add (rs := [(1, 1, 1, 5), (1, 1, 1, 5)]) (l := [115, 49, 32, 100, 49, 32, 116, 54]) (1, 1, 1, 6) (isRep_txt (by decide) (by kernel_rfl)) (by decide)
    have e : adL [(1, 1, 1, 5), (1, 1, 1, 5)] (1, 1, 1, 6) = [(1, 1, 1, 5), (1, 1, 1, 5), (1, 1, 1, 6)] := by decide
    rwa [e] at h
  have s3 : Stp [(1, 1, 1, 5), (1, 1, 1, 5), (1, 1, 1, 6)] [99, 104, 97, 110, 103, 101, 115] [(1, 1, 1, 5), (1, 1, 1, 5), (1, 1, 1, 6)] [118, 97, 108, 117, 101, 115, 32, 50] := by
    have h := Stp.changes (rs := [(1, 1, 1, 5), (1, 1, 1, 5), (1, 1, 1, 6)]) (l := [99, 104, 97, 110, 103, 101, 115]) (by decide)
    have e : chT [(1, 1, 1, 5), (1, 1, 1, 5), (1, 1, 1, 6)] = [118, 97, 108, 117, 101, 115, 32, 50] := by kernel_rfl
    rwa [e] at h
  have hr : Run [[115, 49, 32, 100, 49, 32, 116, 53], [115, 49, 32, 100, 49, 32, 116, 53], [115, 49, 32, 100, 49, 32, 116, 54], [99, 104, 97, 110, 103, 101, 115], []] 4 [(1, 1, 1, 5), (1, 1, 1, 5), (1, 1, 1, 6)] _ := (Run.more (Run.more (Run.more (Run.more .none s0) s1) s2) s3)
  have hE := Exec.run (t := tChanges) (by decide) (by rw [e1]; exact hr)
  have e2 : ∀ o, o = oChanges → Exec tChanges o → Exec tChanges oChanges := fun o e h => by rw [← e]; exact h
  exact e2 _ (by kernel_rfl) hE
theorem execBad : Exec tBad oBad := by
  have e1 : cutL 10 tBad = [[115, 49, 32, 100, 49, 32, 116, 54, 48, 49], [115, 49, 48, 32, 100, 49, 32, 116, 53], [115, 49, 32, 100, 48, 49, 32, 116, 53], [115, 49, 32, 100, 49, 32, 116, 45, 48], []] := by decide
  have s0 : Stp [] [115, 49, 32, 100, 49, 32, 116, 54, 48, 49] [] sWhat := by
    exact .what (by decide) (by decide) (no_rep (s := 1) (d := 1) (k := 1) (v := 601) ⟨_, rfl, by decide, by decide, _, rfl, by decide, by decide, _, _, rfl, by decide, by decide, by decide, by decide, by decide⟩ (by decide))
  have s1 : Stp [] [115, 49, 48, 32, 100, 49, 32, 116, 53] [] sWhat := by
    exact .what (by decide) (by decide) (no_rep (s := 10) (d := 1) (k := 1) (v := 5) ⟨_, rfl, by decide, by decide, _, rfl, by decide, by decide, _, _, rfl, by decide, by decide, by decide, by decide, by decide⟩ (by decide))
  have s2 : Stp [] [115, 49, 32, 100, 48, 49, 32, 116, 53] [] sWhat := by
    refine .what (by decide) (by decide) (fun r h => ?_)
    obtain ⟨⟨t, e, _, _, t2, e2, h3, _⟩, _⟩ := h
    obtain rfl := (List.cons.inj e).2
    have e3 : ([32, 100, 48, 49, 32, 116, 53] : List UInt8) = 32 :: 100 :: t2 := e2
    obtain rfl := (List.cons.inj (List.cons.inj e3).2).2
    revert h3; decide
  have s3 : Stp [] [115, 49, 32, 100, 49, 32, 116, 45, 48] [] sWhat := by
    refine .what (by decide) (by decide) (fun r h => ?_)
    obtain ⟨⟨t, e, _, _, t2, e2, _, _, c, t3, e4, _, _, h5, _⟩, _⟩ := h
    obtain rfl := (List.cons.inj e).2
    have e3 : ([32, 100, 49, 32, 116, 45, 48] : List UInt8) = 32 :: 100 :: t2 := e2
    obtain rfl := (List.cons.inj (List.cons.inj e3).2).2
    have e5 : ([32, 116, 45, 48] : List UInt8) = 32 :: c :: t3 := e4
    obtain rfl := (List.cons.inj (List.cons.inj e5).2).2
    revert h5; decide
  have hr : Run [[115, 49, 32, 100, 49, 32, 116, 54, 48, 49], [115, 49, 48, 32, 100, 49, 32, 116, 53], [115, 49, 32, 100, 48, 49, 32, 116, 53], [115, 49, 32, 100, 49, 32, 116, 45, 48], []] 4 [] _ := (Run.more (Run.more (Run.more (Run.more .none s0) s1) s2) s3)
  have hE := Exec.run (t := tBad) (by decide) (by rw [e1]; exact hr)
  have e2 : ∀ o, o = oBad → Exec tBad o → Exec tBad oBad := fun o e h => by rw [← e]; exact h
  exact e2 _ (by kernel_rfl) hE
theorem execNone : Exec [] (sReports ++ [48, 10]) := by
  have e2 : ∀ o, o = sReports ++ [48, 10] → Exec [] o → Exec [] (sReports ++ [48, 10]) := fun o e h => by rw [← e]; exact h
  exact e2 _ (by kernel_rfl) (Exec.run (t := []) (by decide) (Run.none (ls := cutL 10 [])))
end Go.Proofs.YtnemdnidlbekbaaGreatDoor
namespace Go.Proofs.YtnemdnidlbekbaaGreatDoor
open Go.RowKit
set_option linter.unusedVariables false

theorem byte_at {s : ByteArray} {l : List UInt8} (h : s.data.toList = l) {j : Nat} (hj : j < s.size) : s[j] = l.getD j 0 := by
  subst h
  have h2 : j < s.data.toList.length := hj
  rw [List.getD_eq_getElem?_getD, List.getElem?_eq_getElem h2, Option.getD_some]
  show s.data[j]'hj = s.data.toList[j]
  simp
set_option maxRecDepth 100000 in
set_option maxHeartbeats 2000000 in
theorem complete_any (s : ByteArray) (ps : List (List UInt8)) (q : List UInt8) (w : World) (hs : s.size ≤ 1048576) (he : s.data.toList = flat 10 ps ++ q) (hq : (10 : UInt8) ∉ q) :
    Calls Tryz.prog 15 #[.string s] w fun e w' => (∃ c : ByteArray, e = .returned (.string c) ∧ c.data.toList = flat 10 ps) ∧ w = w' := by
  have hln : (flat 10 ps).length + q.length = s.size := by
    have h9 : s.data.toList.length = s.size := rfl
    rw [he, List.length_append] at h9; exact h9
  have HB : Hid (∀ j, (hj : j < s.size) → (flat 10 ps).length ≤ j → ((s[j].toNat : Int) == 10) = false) := Lib.hid (fun j hj h1 => by
    rw [byte_at he hj, List.getD_eq_getElem?_getD, List.getElem?_append_right h1]
    have h2 : j - (flat 10 ps).length < q.length := by omega
    rw [List.getElem?_eq_getElem h2, Option.getD_some]
    have h3 : q[j - (flat 10 ps).length] ≠ 10 := fun e => hq (by rw [← e]; exact List.getElem_mem h2)
    have h4 : ¬ (q[j - (flat 10 ps).length].toNat : Int) = 10 := fun e => h3 (by
      apply UInt8.toNat_inj.1
      have : q[j - (flat 10 ps).length].toNat = 10 := by omega
      rw [this]; rfl)
    exact beq_eq_false_iff_ne.2 h4)
  have HE : Hid (ps = [] ∨ ∀ j, (hj : j < s.size) → j + 1 = (flat 10 ps).length → ((s[j].toNat : Int) == 10) = true) := Lib.hid ((flat_end 10 ps).imp id fun ⟨t, ht⟩ j hj h1 => by
    rw [byte_at he hj, ht]
    rw [ht, List.length_append, List.length_singleton] at h1
    have h2 : j = t.length := by omega
    subst h2
    simp [List.getD_eq_getElem?_getD])
  have HT : Hid (s.data.toList.take (flat 10 ps).length = flat 10 ps) := Lib.hid (by rw [he]; exact List.take_left' rfl)
  have HF : Hid (ps = [] ↔ (flat 10 ps).length = 0) := Lib.hid (by cases ps <;> simp [flat])
  generalize hm : (flat 10 ps).length = m at *
  clear he hq
  go_enter Tryz.func15, Tryz.ntmps15
  go_wp2_with fail
  go_loop [3] (fun i => ∃ k : Nat, m ≤ k ∧ k ≤ s.size ∧ i = .int .i64 k) (fun i => (intOf i).toNat)
  case atStart => exact ⟨s.size, by omega, Nat.le_refl _, rfl⟩
  case round =>
    obtain ⟨k, hk1, hk2, rfl⟩ := hrel
    by_cases hk0 : 0 < k
    · obtain ⟨j, hj⟩ : ∃ j : Nat, j + 1 = k := ⟨k - 1, by omega⟩
      have hjs : j < s.size := by omega
      have p0 : (0 : Int) < (k : Int) := by omega
      have hw : (k : Int) - 1 = (j : Int) := by omega
      have p1 : (0 : Int) ≤ (j : Int) := by omega
      have p2 : (j : Int) < (s.size : Int) := by omega
      have p3 : (k : Int) ≤ (s.size : Int) := by omega
      have p4 : (0 : Int) ≤ (k : Int) := by omega
      by_cases hkm : k = m
      · have hd : ((s[j].toNat : Int) == 10) = true := by
          rcases HE.out with h | h
          · rw [HF.out] at h; omega
          · exact h j hjs (by omega)
        have HJ := Lib.hid hj
        have HK := Lib.hid hkm
        clear hj hkm hm hln
        go_wp2
        go_ret
        exact ⟨⟨_, rfl, by rw [HK.out, Lib.extract_from_zero]; exact HT.out⟩, rfl⟩
      · have hd : ((s[j].toNat : Int) == 10) = false := HB.out j hjs (by omega)
        have HJ := Lib.hid hj
        clear hj hm hln
        go_wp2
        go_round
        case rel => exact ⟨j, by have := HJ.out; omega, by omega, by first | rfl | go_num⟩
        case measure => simp [intOf]; have := HJ.out; omega
    · obtain rfl : k = 0 := by omega
      have hz : m = 0 := by omega
      have HZ : Hid (flat 10 ps = []) := Lib.hid (List.length_eq_zero_iff.1 (by omega))
      clear hm hln
      go_wp2
      go_ret
      exact ⟨⟨_, rfl, by rw [HZ.out]⟩, rfl⟩
set_option maxRecDepth 100000 in
set_option maxHeartbeats 2000000 in
theorem last_any (s : ByteArray) (o e0 : List UInt8) (w : World) (hs : s.size ≤ 1048576) (he : s.data.toList = o ++ (e0 ++ [10])) (hq : (10 : UInt8) ∉ e0) (h0 : 0 < e0.length) (ho : o = [] ∨ ∃ t, o = t ++ [10]) :
    Calls Tryz.prog 16 #[.string s] w fun e w' => (∃ c : ByteArray, e = .returned (.string c) ∧ c.data.toList = e0 ++ [10]) ∧ w = w' := by
  have hln : o.length + e0.length + 1 = s.size := by
    have h9 : s.data.toList.length = s.size := rfl
    rw [he, List.length_append, List.length_append, List.length_singleton] at h9; omega
  have HB : Hid (∀ j, (hj : j < s.size) → o.length ≤ j → j + 1 < s.size → ((s[j].toNat : Int) == 10) = false) := Lib.hid (fun j hj h1 h5 => by
    have h2 : j - o.length < e0.length := by omega
    rw [byte_at he hj, List.getD_eq_getElem?_getD, List.getElem?_append_right h1, List.getElem?_append_left h2, List.getElem?_eq_getElem h2, Option.getD_some]
    have h3 : e0[j - o.length] ≠ 10 := fun e => hq (by rw [← e]; exact List.getElem_mem h2)
    have h4 : ¬ (e0[j - o.length].toNat : Int) = 10 := fun e => h3 (by
      apply UInt8.toNat_inj.1
      have : e0[j - o.length].toNat = 10 := by omega
      rw [this]; rfl)
    exact beq_eq_false_iff_ne.2 h4)
  have HE : Hid (∀ j, (hj : j < s.size) → j + 1 = o.length → ((s[j].toNat : Int) == 10) = true) := Lib.hid (fun j hj h1 => by
    rcases ho with rfl | ⟨t, rfl⟩
    · simp at h1
    · rw [byte_at he hj]
      rw [List.length_append, List.length_singleton] at h1
      have h2 : j = t.length := by omega
      subst h2
      simp [List.getD_eq_getElem?_getD])
  have HT : Hid (s.data.toList.drop o.length = e0 ++ [10]) := Lib.hid (by rw [he]; exact List.drop_left' rfl)
  generalize hm : o.length = m at *
  generalize hn : e0.length = n0 at *
  clear he hq ho hn hm
  have p9 : IntKind.i64.wrap ((s.size : Int) - 2) = (s.size : Int) - 2 := IntWalk.i64_in _ (by omega)
  have HL := Lib.hid hln
  clear hln
  go_enter Tryz.func16, Tryz.ntmps16
  go_wp2_with fail
  go_loop [3] (fun i => ∃ k : Nat, m ≤ k ∧ k + 1 ≤ s.size ∧ i = .int .i64 ((k : Int) - 1)) (fun i => (intOf i + 1).toNat)
  case atStart => exact ⟨m + n0, by omega, by have := HL.out; omega, congrArg (Value.int .i64) (by have := HL.out; omega)⟩
  case round =>
    obtain ⟨k, hk1, hk2, rfl⟩ := hrel
    by_cases hk0 : 0 < k
    · obtain ⟨j, hj⟩ : ∃ j : Nat, j + 1 = k := ⟨k - 1, by omega⟩
      have hjs : j < s.size := by omega
      have hw : (k : Int) - 1 = (j : Int) := by omega
      rw [hw]
      have p0 : (0 : Int) ≤ (j : Int) := by omega
      have p2 : (j : Int) < (s.size : Int) := by omega
      have p5 : (j : Int) + 1 ≤ (s.size : Int) := by omega
      have p6 : (0 : Int) ≤ (j : Int) + 1 := by omega
      by_cases hkm : k = m
      · have hd : ((s[j].toNat : Int) == 10) = true := HE.out j hjs (by omega)
        have HJ := Lib.hid hj
        have HK := Lib.hid hkm
        have p7 : j + 1 ≤ s.size := by omega
        clear hj hkm hw
        go_wp2
        go_ret
        exact ⟨⟨_, rfl, by rw [HJ.out.trans HK.out, Lib.extract_to_end]; exact HT.out⟩, rfl⟩
      · have hd : ((s[j].toNat : Int) == 10) = false := HB.out j hjs (by omega) (by omega)
        have HJ := Lib.hid hj
        clear hj hw
        go_wp2
        go_round
        case rel => exact ⟨j, by have := HJ.out; omega, by omega, by first | rfl | go_num⟩
        case measure => simp [intOf]
    · obtain rfl : k = 0 := by omega
      have hz : m = 0 := by omega
      have HZ : Hid (s.data.toList = e0 ++ [10]) := Lib.hid (by have := HT.out; rwa [hz] at this)
      clear hz
      go_wp2
      go_ret
      exact ⟨⟨_, rfl, HZ.out⟩, rfl⟩
end Go.Proofs.YtnemdnidlbekbaaGreatDoor
namespace Go.Proofs.YtnemdnidlbekbaaGreatDoor
open Go.RowKit
set_option linter.unusedVariables false

/-- A script drawn and executed by both: one answer. -/
theorem both_one {s t1 t2 : ByteArray} (h1 : Exec s.data.toList t1.data.toList) (h2 : Exec s.data.toList t2.data.toList) : t2 = t1 := bytes_eqZ (h2.one h1)
/-- A script of ours executed by the program. -/
theorem exec_const (c o : ByteArray) (h : Exec c.data.toList o.data.toList) (W : World) (T : TabsZ W) :
    Calls Tryz.prog 13 #[.string c] W fun e w' => e = .returned (.string o) ∧ Keep W w' :=
  (exec_impl c W T.tabs T.maxl).mono fun e w' ⟨t, he, hx, k⟩ => ⟨by rw [he, bytes_eqZ (hx.one h)], k⟩
end Go.Proofs.YtnemdnidlbekbaaGreatDoor
