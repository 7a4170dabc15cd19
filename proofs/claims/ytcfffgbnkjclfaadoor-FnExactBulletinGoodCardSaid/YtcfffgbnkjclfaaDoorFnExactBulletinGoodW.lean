/- BulletinGood: the program answers as its model. -/
import Derived.Test.YtcfffgbnkjclfaaDoorBgs
import Derived.Test.YtcfffgbnkjclfaaDoorTe
import Derived.Test.YtcfffgbnkjclfaaDoorFr
namespace Go.Proofs.YtcfffgbnkjclfaaDoor
open Go.RowKit
set_option linter.unusedVariables false

/-- A text has a last blank, or none. -/
theorem last_blank (p : ByteArray) : (∀ (j : Nat) (h : j < p.size), p[j] ≠ 32) ∨ ∃ (m : Nat) (hm : m < p.size), p[m] = 32 ∧ ∀ (j : Nat) (h : j < p.size), m < j → p[j] ≠ 32 := by
  have key : ∀ n, n ≤ p.size → (∀ (j : Nat) (h : j < p.size), p.size - n ≤ j → p[j] ≠ 32) ∨ ∃ (m : Nat) (hm : m < p.size), p[m] = 32 ∧ ∀ (j : Nat) (h : j < p.size), m < j → p[j] ≠ 32 := by
    intro n
    induction n with
    | zero => intro _; exact .inl fun j h hj => absurd h (by omega)
    | succ n ih =>
      intro hn
      rcases ih (by omega) with h | h
      · by_cases hx : p[p.size - (n + 1)]'(by omega) = 32
        · exact .inr ⟨p.size - (n + 1), by omega, hx, fun j hj hlt => h j hj (by omega)⟩
        · refine .inl fun j hj hle => ?_
          by_cases e : j = p.size - (n + 1)
          · subst e; exact hx
          · exact h j hj (by omega)
      · exact .inr h
  rcases key p.size (Nat.le_refl _) with h | h
  · exact .inl fun j hj => h j hj (by omega)
  · exact .inr h
set_option maxRecDepth 100000 in
set_option maxHeartbeats 1000000 in
theorem walk_FnExactBulletinGood (a0 : ByteArray) (w : World) (w0 : a0.size ≤ maxLen) (T : TabsE w) :
    Calls Tryd.prog 10 #[.string a0] w fun e w' => e = .returned (.bool true) ∧ Below w.heap.size w w' := by
  unfold maxLen at w0
  by_cases h : a0.size ≤ 1048576
  case' neg =>
    have hd : decide (1048576 < (a0.size : Int)) = true := by simp; omega
    go_enter Tryd.func10, Tryd.ntmps10
    go_wp2
    go_ret
    exact ⟨rfl, Below.refl _ _⟩
  have hd : decide (1048576 < (a0.size : Int)) = false := by simp; omega
  obtain ⟨b, H1, H2⟩ : ∃ b : Bool, Hid (∀ W, Calls Tryd.prog 22 #[.string a0] W fun e w' => e = .returned (.bool b) ∧ Keep W w') ∧ Hid (∀ W, TabsE W → Calls Tryd.prog 15 #[.string a0] W fun e w' => e = .returned (.bool b) ∧ Keep W w') := by
    rcases last_blank a0 with h9 | ⟨m, hm, h32, hno⟩
    · exact ⟨false, Lib.hid fun W => sg_none a0 W h h9, Lib.hid fun W hT => bg_none a0 W hT h h9⟩
    · exact ⟨gX a0 m, Lib.hid fun W => sg_at a0 m W h hm h32 hno, Lib.hid fun W hT => bg_at a0 m W hT h hm h32 hno⟩
  have HT := Lib.hid T
  clear T
  have hbb : (b != b) = false := by simp
  go_enter Tryd.func10, Tryd.ntmps10
  go_wp2_with fail
  refine (H1.out _).mono ?_
  rintro e w1 ⟨rfl, k1⟩
  go_wp2_with fail
  refine (H2.out _ (HT.out.keep k1)).mono ?_
  rintro e w2 ⟨rfl, k2⟩
  go_wp2
  go_ret
  exact ⟨rfl, k1.trans k2⟩
end Go.Proofs.YtcfffgbnkjclfaaDoor
