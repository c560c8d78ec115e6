/-
  DERIVED. YEARS AS WHOLE NUMBERS: leap years, lengths, first days. No program.
-/
namespace Go.Proofs.YtnmpejhljdkkgaaDoor

def leapB (y : Int) : Bool := y % 400 == 0 || (y % 4 == 0 && y % 100 != 0)
def lenI (y : Int) : Int := if leapB y then 366 else 365
/-- the leap years from 0 on that are less than y (less those from y on that are less than 0) -/
def Lp (y : Int) : Int := (y + 3) / 4 - (y + 99) / 100 + (y + 399) / 400
/-- the first day -/
def Sd (y : Int) : Int := 365 * y + Lp y
def isY (y : Int) : Bool := decide (-10000000000000000 ≤ y) && decide (y ≤ 10000000000000000)
theorem isY_iff (y : Int) : isY y = true ↔ -10000000000000000 ≤ y ∧ y ≤ 10000000000000000 := by unfold isY; simp
theorem leap_iff (y : Int) : leapB y = true ↔ y % 400 = 0 ∨ y % 4 = 0 ∧ ¬ y % 100 = 0 := by unfold leapB; simp
theorem Lp_succ (y : Int) : Lp (y + 1) = Lp y + (if leapB y then 1 else 0) := by
  have h := leap_iff y
  unfold Lp
  split
  · have := h.1 ‹_›; omega
  · have : ¬ (y % 400 = 0 ∨ y % 4 = 0 ∧ ¬ y % 100 = 0) := fun e => ‹¬ _› (h.2 e)
    omega
theorem Sd_succ (y : Int) : Sd (y + 1) = Sd y + lenI y := by
  unfold Sd lenI
  rw [Lp_succ]
  split <;> omega
theorem lenI_two (y : Int) : lenI y = 365 ∨ lenI y = 366 := by unfold lenI; split <;> simp
theorem Lp_400 (q r : Int) : Lp (400 * q + r) = 97 * q + Lp r := by unfold Lp; omega
theorem Sd_400 (q r : Int) : Sd (400 * q + r) = 146097 * q + Sd r := by unfold Sd; rw [Lp_400]; omega
theorem leap_400 (q r : Int) : leapB (400 * q + r) = leapB r := by
  rw [Bool.eq_iff_iff, leap_iff, leap_iff]
  omega
theorem Sd_lt {y z : Int} (h : y < z) : Sd y < Sd z := by unfold Sd Lp; omega
theorem Sd_le {y z : Int} (h : y ≤ z) : Sd y ≤ Sd z := by
  by_cases e : y = z
  · rw [e]; exact Int.le_refl _
  · exact Int.le_of_lt (Sd_lt (by omega))
theorem Lp_le {y z : Int} (h : y ≤ z) : Lp y ≤ Lp z := by unfold Lp; omega
/-- a year has a day -/
def YearHas (y d : Int) : Prop := Sd y ≤ d ∧ d < Sd (y + 1)
theorem year_uniq {y z d : Int} (h : YearHas y d) (g : YearHas z d) : y = z := by
  obtain ⟨h1, h2⟩ := h
  obtain ⟨g1, g2⟩ := g
  by_cases e : y < z
  · have := Sd_le (show y + 1 ≤ z by omega); omega
  · by_cases e2 : z < y
    · have := Sd_le (show z + 1 ≤ y by omega); omega
    · omega
theorem year_exists (d : Int) : ∃ y, YearHas y d := by
  obtain ⟨y, hy⟩ : ∃ y, y = 400 * d / 146097 := ⟨_, rfl⟩
  have h1 : 146097 * y ≤ 400 * d := by omega
  have h2 : 400 * d < 146097 * (y + 1) := by omega
  by_cases a : d < Sd y
  · refine ⟨y - 1, ?_, ?_⟩
    · unfold Sd Lp at *; omega
    · rw [show y - 1 + 1 = y by omega]; exact a
  · by_cases b : d < Sd (y + 1)
    · exact ⟨y, by omega, b⟩
    · refine ⟨y + 1, by omega, ?_⟩
      unfold Sd Lp at *; omega
theorem Sd_vals : Sd (-10000000000000000) = -3652425000000000000 ∧ Sd 10000000000000000 = 3652425000000000000 ∧ Sd 10000000000000001 = 3652425000000000366 := by decide
theorem Sd_in {y : Int} (h : isY y = true) : -3652425000000000000 ≤ Sd y ∧ Sd y ≤ 3652425000000000000 := by
  rw [isY_iff] at h
  have h1 := Sd_le h.1
  have h2 := Sd_le h.2
  have := Sd_vals
  omega
/-- which days are those of the calendar -/
theorem year_in {y d : Int} (h : YearHas y d) : isY y = true ↔ -3652425000000000000 ≤ d ∧ d ≤ 3652425000000000365 := by
  obtain ⟨h1, h2⟩ := h
  have hv := Sd_vals
  rw [isY_iff]
  constructor
  · rintro ⟨a, b⟩
    have := Sd_le a
    have := Sd_le (show y + 1 ≤ 10000000000000001 by omega)
    omega
  · rintro ⟨a, b⟩
    constructor
    · by_cases e : -10000000000000000 ≤ y
      · exact e
      · have := Sd_le (show y + 1 ≤ -10000000000000000 by omega); omega
    · by_cases e : y ≤ 10000000000000000
      · exact e
      · have := Sd_le (show 10000000000000001 ≤ y by omega); omega
end Go.Proofs.YtnmpejhljdkkgaaDoor
