/- The calendar: years, months, days. Plain mathematics: nothing here speaks of the program. -/
import Derived.Test.YtohoeonfoolpdaaDoorRv
namespace Go.Proofs.YtohoeonfoolpdaaDoor
open Go.RowKit
set_option linter.unusedVariables false

/-- The calendar is one of both. -/
def cOne (c : Int) : Bool := c == 1 || c == 2
/-- A year of a calendar is long. -/
def lng (y c : Int) : Bool := decide (y % 4 = 0) && (decide (c = 2) || decide (y % 100 ≠ 0) || decide (y % 400 = 0))
def lpd (y c : Int) : Int := if lng y c then 1 else 0
def yOk (y : Int) : Bool := inB y 1 2200
def yl (y c : Int) : Bool := cOne c && yOk y && lng y c
/-- The days of a year ahead of a month. -/
def cum (y m c : Int) : Int := (367 * m - 362) / 12 + (if m ≤ 2 then 0 else lpd y c - 2)
def mlen (y m c : Int) : Int := cum y (m + 1) c - cum y m c
/-- The first day of a year. -/
def ys (y c : Int) : Int := 365 * (y - 1) + (y - 1) / 4 - (if c = 2 then 2 else (y - 1) / 100 - (y - 1) / 400)
def dv (y m d c : Int) : Bool := cOne c && yOk y && inB m 1 12 && inB d 1 (mlen y m c)
def dn (y m d c : Int) : Int := ys y c + cum y m c + d - 1
/-- The calendar has a date of the day. -/
def dayOk (n c : Int) : Bool := cOne c && decide (ys 1 c ≤ n) && decide (n < ys 2201 c)

theorem lpd_01 (y c : Int) : 0 ≤ lpd y c ∧ lpd y c ≤ 1 := by unfold lpd; split <;> omega
theorem cum_one (y c : Int) : cum y 1 c = 0 := by simp [cum]
theorem cum_succ (y m c : Int) : cum y (m + 1) c = cum y m c + mlen y m c := by unfold mlen; omega
theorem cum_end (y c : Int) : cum y 13 c = 365 + lpd y c := by simp [cum]; omega
theorem mlen_bd (y m c : Int) (h1 : 1 ≤ m) (h2 : m ≤ 12) : 28 ≤ mlen y m c ∧ mlen y m c ≤ 31 := by
  have := lpd_01 y c
  unfold mlen cum
  split <;> split <;> omega
theorem cum_mono (y m m' c : Int) (h1 : 1 ≤ m) (h : m ≤ m') : cum y m c ≤ cum y m' c := by
  have := lpd_01 y c
  unfold cum
  split <;> split <;> omega
theorem cum_bd (y m c : Int) (h1 : 1 ≤ m) (h2 : m ≤ 13) : 0 ≤ cum y m c ∧ cum y m c ≤ 366 := by
  have := lpd_01 y c
  unfold cum
  split <;> omega
theorem ys_succ (y c : Int) (hc : cOne c = true) (h : 1 ≤ y) : ys (y + 1) c = ys y c + 365 + lpd y c := by
  have hc' : c = 1 ∨ c = 2 := by simpa [cOne] using hc
  rcases hc' with rfl | rfl
  · by_cases h4 : y % 4 = 0 <;> by_cases h100 : y % 100 = 0 <;> by_cases h400 : y % 400 = 0 <;> simp [ys, lpd, lng, h4, h100, h400] <;> omega
  · by_cases h4 : y % 4 = 0 <;> simp [ys, lpd, lng, h4] <;> omega
theorem ys_mono (a b c : Int) (h1 : 1 ≤ a) (h : a ≤ b) : ys a c ≤ ys b c := by
  unfold ys
  split <;> omega
theorem ys_one (c : Int) (hc : cOne c = true) : -2 ≤ ys 1 c ∧ ys 1 c ≤ 0 := by
  have hc' : c = 1 ∨ c = 2 := by simpa [cOne] using hc
  rcases hc' with rfl | rfl <;> simp [ys]
theorem ys_end (c : Int) (hc : cOne c = true) : 803532 < ys 2201 c ∧ ys 2201 c ≤ 803548 := by
  have hc' : c = 1 ∨ c = 2 := by simpa [cOne] using hc
  rcases hc' with rfl | rfl <;> simp [ys]
theorem ys_bd (y c : Int) (h1 : 1 ≤ y) (h2 : y ≤ 2201) : -2 ≤ ys y c ∧ ys y c ≤ 1000000 := by
  unfold ys; split <;> omega
theorem cOne_cases {c : Int} (h : cOne c = true) : c = 1 ∨ c = 2 := by simpa [cOne] using h
theorem dv_facts {y m d c : Int} (h : dv y m d c = true) : cOne c = true ∧ 1 ≤ y ∧ y ≤ 2200 ∧ 1 ≤ m ∧ m ≤ 12 ∧ 1 ≤ d ∧ d ≤ mlen y m c := by
  simp [dv, yOk, inB] at h
  obtain ⟨⟨⟨h1, h2, h3⟩, h4, h5⟩, h6, h7⟩ := h
  exact ⟨h1, h2, h3, h4, h5, h6, h7⟩
theorem dv_mk {y m d c : Int} (h : cOne c = true ∧ 1 ≤ y ∧ y ≤ 2200 ∧ 1 ≤ m ∧ m ≤ 12 ∧ 1 ≤ d ∧ d ≤ mlen y m c) : dv y m d c = true := by
  simp [dv, yOk, inB]
  obtain ⟨h1, h2, h3, h4, h5, h6, h7⟩ := h
  exact ⟨⟨⟨h1, h2, h3⟩, h4, h5⟩, h6, h7⟩
/-- A date lies in its year. -/
theorem dn_in {y m d c : Int} (h : dv y m d c = true) : ys y c ≤ dn y m d c ∧ dn y m d c < ys (y + 1) c := by
  obtain ⟨hc, y1, y2, m1, m2, d1, d2⟩ := dv_facts h
  have a := cum_bd y m c m1 (by omega)
  have b := cum_mono y (m + 1) 13 c (by omega) (by omega)
  have e := cum_end y c
  have s := ys_succ y c hc y1
  have t := cum_succ y m c
  unfold dn
  omega
theorem dn_year {y m d y' m' d' c : Int} (h : dv y m d c = true) (h' : dv y' m' d' c = true) (e : dn y m d c = dn y' m' d' c) : y = y' := by
  have a := dn_in h
  have b := dn_in h'
  obtain ⟨hc, y1, y2, _⟩ := dv_facts h
  obtain ⟨_, y1', y2', _⟩ := dv_facts h'
  rcases Int.lt_trichotomy y y' with hl | hl | hl
  · have := ys_mono (y + 1) y' c (by omega) (by omega); omega
  · exact hl
  · have := ys_mono (y' + 1) y c (by omega) (by omega); omega
/-- A day has one date. -/
theorem dn_inj {y m d y' m' d' c : Int} (h : dv y m d c = true) (h' : dv y' m' d' c = true) (e : dn y m d c = dn y' m' d' c) : y = y' ∧ m = m' ∧ d = d' := by
  have hy := dn_year h h' e
  subst hy
  obtain ⟨hc, y1, y2, m1, m2, d1, d2⟩ := dv_facts h
  obtain ⟨_, _, _, m1', m2', d1', d2'⟩ := dv_facts h'
  unfold dn at e
  rcases Int.lt_trichotomy m m' with hl | hl | hl
  · have := cum_mono y (m + 1) m' c (by omega) (by omega); have := cum_succ y m c; omega
  · subst hl; exact ⟨rfl, rfl, by omega⟩
  · have := cum_mono y (m' + 1) m c (by omega) (by omega); have := cum_succ y m' c; omega
theorem dn_ok {y m d c : Int} (h : dv y m d c = true) : dayOk (dn y m d c) c = true := by
  have a := dn_in h
  obtain ⟨hc, y1, y2, _⟩ := dv_facts h
  have := ys_mono 1 y c (by omega) (by omega)
  have := ys_mono (y + 1) 2201 c (by omega) (by omega)
  simp [dayOk, hc]
  omega
theorem dn_bd {y m d c : Int} (h : dv y m d c = true) : -2 ≤ dn y m d c ∧ dn y m d c ≤ 1000000 := by
  have a := dn_in h
  obtain ⟨hc, y1, y2, _⟩ := dv_facts h
  have := ys_bd y c y1 (by omega)
  have := ys_bd (y + 1) c (by omega) (by omega)
  omega
theorem dayOk_facts {n c : Int} (h : dayOk n c = true) : cOne c = true ∧ ys 1 c ≤ n ∧ n < ys 2201 c := by
  simp [dayOk] at h; exact ⟨h.1.1, h.1.2, h.2⟩
theorem dayOk_mk {n c : Int} (h : cOne c = true) (h1 : ys 1 c ≤ n) (h2 : n < ys 2201 c) : dayOk n c = true := by
  simp [dayOk, h, h1, h2]
/-- The date of a day: its year, month and day. -/
theorem date_mk {n c y m : Int} (hc : cOne c = true) (y1 : 1 ≤ y) (y2 : y ≤ 2200) (m1 : 1 ≤ m) (m2 : m ≤ 12) (h1 : ys y c + cum y m c ≤ n) (h2 : n < ys y c + cum y (m + 1) c) :
    dv y m (n - ys y c - cum y m c + 1) c = true ∧ dn y m (n - ys y c - cum y m c + 1) c = n := by
  have := cum_succ y m c
  exact ⟨dv_mk ⟨hc, y1, y2, m1, m2, by omega, by omega⟩, by unfold dn; omega⟩
/-- The day behind a date's. -/
theorem next_in {y m d c : Int} (h : dv y m d c = true) (hd : d < mlen y m c) : dv y m (d + 1) c = true ∧ dn y m (d + 1) c = dn y m d c + 1 := by
  obtain ⟨hc, y1, y2, m1, m2, d1, d2⟩ := dv_facts h
  exact ⟨dv_mk ⟨hc, y1, y2, m1, m2, by omega, by omega⟩, by unfold dn; omega⟩
/-- k days behind a date: in the same month, the next one, or the next year. -/
theorem later {y m d c : Int} (k : Int) (hk : 1 ≤ k) (hk2 : k ≤ 28) (h : dv y m d c = true) :
    (d + k ≤ mlen y m c ∧ dv y m (d + k) c = true ∧ dn y m (d + k) c = dn y m d c + k) ∨
    (mlen y m c < d + k ∧ m < 12 ∧ dv y (m + 1) (d + k - mlen y m c) c = true ∧ dn y (m + 1) (d + k - mlen y m c) c = dn y m d c + k) ∨
    (mlen y m c < d + k ∧ m = 12 ∧ y < 2200 ∧ dv (y + 1) 1 (d + k - mlen y m c) c = true ∧ dn (y + 1) 1 (d + k - mlen y m c) c = dn y m d c + k) ∨
    (mlen y m c < d + k ∧ m = 12 ∧ y = 2200 ∧ dayOk (dn y m d c + k) c = false) := by
  obtain ⟨hc, y1, y2, m1, m2, d1, d2⟩ := dv_facts h
  have b := mlen_bd y m c m1 m2
  have s := cum_succ y m c
  by_cases hd : d + k ≤ mlen y m c
  · exact .inl ⟨hd, dv_mk ⟨hc, y1, y2, m1, m2, by omega, hd⟩, by unfold dn; omega⟩
  · by_cases hm : m < 12
    · have b' := mlen_bd y (m + 1) c (by omega) (by omega)
      exact .inr (.inl ⟨by omega, hm, dv_mk ⟨hc, y1, y2, by omega, by omega, by omega, by omega⟩, by unfold dn; omega⟩)
    · obtain rfl : m = 12 := by omega
      have e : cum y (12 + 1) c = 365 + lpd y c := cum_end y c
      have t := ys_succ y c hc y1
      by_cases hy : y < 2200
      · have b' := mlen_bd (y + 1) 1 c (by omega) (by omega)
        have o := cum_one (y + 1) c
        exact .inr (.inr (.inl ⟨by omega, rfl, hy, dv_mk ⟨hc, by omega, by omega, by omega, by omega, by omega, by omega⟩, by unfold dn; omega⟩))
      · obtain rfl : y = 2200 := by omega
        refine .inr (.inr (.inr ⟨by omega, rfl, rfl, ?_⟩))
        have t' : ys 2201 c = ys 2200 c + 365 + lpd 2200 c := t
        have : ¬ dn 2200 12 d c + k < ys 2201 c := by unfold dn; omega
        simp [dayOk, this]
/-- The lengths of the months, as both programs have them. -/
theorem mlen_tab (y m c : Int) (h1 : 1 ≤ m) (h2 : m ≤ 12) :
    mlen y m c = ([31, 28, 31, 30, 31, 30, 31, 31, 30, 31, 30, 31] : List Int).getD (m - 1).toNat 0 + (if m = 2 then lpd y c else 0) := by
  have hm : m = 1 ∨ m = 2 ∨ m = 3 ∨ m = 4 ∨ m = 5 ∨ m = 6 ∨ m = 7 ∨ m = 8 ∨ m = 9 ∨ m = 10 ∨ m = 11 ∨ m = 12 := by omega
  rcases hm with rfl | rfl | rfl | rfl | rfl | rfl | rfl | rfl | rfl | rfl | rfl | rfl <;> simp [mlen, cum] <;> omega
/-- A long year has 366 days, and a short one 365. -/
theorem year_days (y c : Int) : dn y 12 31 c - dn y 1 1 c = 364 + lpd y c := by
  simp [dn, cum]; omega
theorem feb29 (y c : Int) (hc : cOne c = true) (hy : yOk y = true) : dv y 2 29 c = lng y c := by
  have : mlen y 2 c = 28 + lpd y c := by simp [mlen, cum]; omega
  unfold dv
  rw [hc, hy, this]
  unfold lpd
  cases lng y c <;> simp [inB]
/-- The drift of both calendars. -/
theorem drift {y m d : Int} (y1 : 1583 ≤ y) (y2 : y ≤ 2200) (m1 : 1 ≤ m) : 10 ≤ dn y m d 2 - dn y m d 1 ∧ dn y m d 2 - dn y m d 1 ≤ 15 := by
  have a := lpd_01 y 1
  have b := lpd_01 y 2
  have e : lpd y 1 ≤ lpd y 2 := by
    unfold lpd lng
    by_cases h : y % 4 = 0 <;> simp [h]
    split <;> omega
  have e2 : lpd y 2 ≠ lpd y 1 → y % 100 = 0 := by
    unfold lpd lng
    by_cases h : y % 4 = 0 <;> by_cases h' : y % 100 = 0 <;> simp [h, h']
  simp only [dn, ys, cum, if_true, show ((1 : Int) = 2) = False from by simp, if_false]
  by_cases h : y % 100 = 0
  · split <;> omega
  · have : lpd y 2 = lpd y 1 := by
      by_cases hh : lpd y 2 = lpd y 1
      · exact hh
      · exact absurd (e2 hh) h
    split <;> omega
end Go.Proofs.YtohoeonfoolpdaaDoor
