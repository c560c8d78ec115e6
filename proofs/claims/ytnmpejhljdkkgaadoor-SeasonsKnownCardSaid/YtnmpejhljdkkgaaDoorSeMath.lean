/-
  DERIVED. SEASONS AS WHOLE NUMBERS: the months of codes, their runs in years. No program.
-/
import Derived.Test.YtnmpejhljdkkgaaDoorMoMath
namespace Go.Proofs.YtnmpejhljdkkgaaDoor

/-- the first month of a code, and how many there are -/
def fromI (c : Int) : Int :=
  if c = 21 ∨ c = 25 ∨ c = 31 then 3 else if c = 22 ∨ c = 26 ∨ c = 32 then 6 else if c = 23 ∨ c = 27 ∨ c = 29 then 9 else if c = 24 ∨ c = 28 ∨ c = 30 then 12
  else if 33 ≤ c ∧ c ≤ 36 then 3 * (c - 33) + 1 else if 37 ≤ c ∧ c ≤ 39 then 4 * (c - 37) + 1 else if c = 40 ∨ c = 41 then 6 * (c - 40) + 1 else 0
def manyI (c : Int) : Int := if 21 ≤ c ∧ c ≤ 36 then 3 else if 37 ≤ c ∧ c ≤ 39 then 4 else if c = 40 ∨ c = 41 then 6 else 0
theorem codes {c : Int} (h1 : 21 ≤ c) (h2 : c ≤ 41) : c = 21 ∨ c = 22 ∨ c = 23 ∨ c = 24 ∨ c = 25 ∨ c = 26 ∨ c = 27 ∨ c = 28 ∨ c = 29 ∨ c = 30 ∨ c = 31 ∨ c = 32 ∨ c = 33 ∨ c = 34 ∨ c = 35 ∨ c = 36 ∨ c = 37 ∨ c = 38 ∨ c = 39 ∨ c = 40 ∨ c = 41 := by omega
theorem many_zero (c : Int) : manyI c = 0 ↔ ¬ (21 ≤ c ∧ c ≤ 41) := by unfold manyI; split <;> (try split) <;> (try split) <;> omega
theorem from_zero {c : Int} (h : manyI c = 0) : fromI c = 0 := by
  rw [many_zero] at h
  unfold fromI
  rw [if_neg (by omega), if_neg (by omega), if_neg (by omega), if_neg (by omega), if_neg (by omega), if_neg (by omega), if_neg (by omega)]
theorem from_in {c : Int} (h : ¬ manyI c = 0) : 1 ≤ fromI c ∧ fromI c ≤ 12 ∧ 3 ≤ manyI c ∧ manyI c ≤ 6 ∧ (fromI c + manyI c ≤ 13 ∨ fromI c = 12 ∧ manyI c = 3) := by
  rw [many_zero] at h
  rcases codes (c := c) (by omega) (by omega) with rfl | rfl | rfl | rfl | rfl | rfl | rfl | rfl | rfl | rfl | rfl | rfl | rfl | rfl | rfl | rfl | rfl | rfl | rfl | rfl | rfl <;> simp [fromI, manyI]
/-- the year and the month of month m of year y, where m may go on into the next year -/
def zY (y m : Int) : Int := if m ≤ 12 then y else y + 1
def zM (m : Int) : Int := if m ≤ 12 then m else m - 12
/-- the error of a run, its first day, its last day -/
def runE (y c : Int) : Int := if manyI c = 0 then 7 else if isY y = false then 6 else if isY (zY y (fromI c + manyI c - 1)) = false then 6 else 0
def loR (y c : Int) : Int := Sm y (fromI c)
def hiR (y c : Int) : Int := Sm (zY y (fromI c + manyI c - 1)) (zM (fromI c + manyI c - 1) + 1) - 1
theorem runE_ok {y c : Int} (h : runE y c = 0) : ¬ manyI c = 0 ∧ isY y = true ∧ isY (zY y (fromI c + manyI c - 1)) = true := by
  unfold runE at h
  by_cases h0 : manyI c = 0
  · rw [if_pos h0] at h; omega
  · rw [if_neg h0] at h
    cases h1 : isY y
    · rw [h1, if_pos rfl] at h; omega
    · rw [h1, if_neg (by decide)] at h
      cases h2 : isY (zY y (fromI c + manyI c - 1))
      · rw [h2, if_pos rfl] at h; omega
      · exact ⟨h0, rfl, rfl⟩
theorem run_in {y c : Int} (h : runE y c = 0) : -3652425000000000000 ≤ loR y c ∧ loR y c ≤ hiR y c ∧ hiR y c ≤ 3652425000000000365 := by
  obtain ⟨h0, h1, h2⟩ := runE_ok h
  obtain ⟨a, b, p, q, r⟩ := from_in h0
  have s1 := Sd_in h1
  have l1 := Sm_in (y := y) a (show fromI c ≤ 13 by omega)
  unfold loR hiR
  rcases r with r | ⟨r1, r2⟩
  · have e1 : zY y (fromI c + manyI c - 1) = y := by unfold zY; rw [if_pos (by omega)]
    have e2 : zM (fromI c + manyI c - 1) = fromI c + manyI c - 1 := by unfold zM; rw [if_pos (by omega)]
    rw [e1, e2]
    have l2 := Sm_le (y := y) (show 1 ≤ fromI c + 1 by omega) (show fromI c + 1 ≤ fromI c + manyI c - 1 + 1 by omega) (by omega)
    have l3 := Sm_succ (y := y) a b
    have l4 := lenM_in y (fromI c)
    have l5 := Sm_le (y := y) (show 1 ≤ fromI c + manyI c - 1 + 1 by omega) (show fromI c + manyI c - 1 + 1 ≤ 13 by omega) (Int.le_refl _)
    rw [Sm_end] at l5
    have l6 := (year_in (y := y) (d := Sd (y + 1) - 1) ⟨by have := Sd_lt (show y < y + 1 by omega); omega, by omega⟩).1 h1
    omega
  · have e1 : zY y (fromI c + manyI c - 1) = y + 1 := by unfold zY; rw [if_neg (by omega)]
    have e2 : zM (fromI c + manyI c - 1) = 2 := by unfold zM; rw [if_neg (by omega)]; omega
    rw [e1] at h2 ⊢
    rw [e2]
    have s2 := Sd_in h2
    have l2 := Sm_in (y := y + 1) (m := 2 + 1) (by omega) (by omega)
    have l3 := Sm_in (y := y) (m := 12) (by omega) (by omega)
    have l4 := Sm_succ (y := y) (m := 12) (by omega) (by omega)
    have l5 := lenM_in y 12
    have l6 := Sm_end y
    have l7 := Sm_succ (y := y + 1) (m := 1) (by omega) (by omega)
    have l8 := Sm_succ (y := y + 1) (m := 2) (by omega) (by omega)
    have l9 := lenM_in (y + 1) 1
    have l10 := lenM_in (y + 1) 2
    have l11 := Sm_one (y + 1)
    have l12 : (12 : Int) + 1 = 13 := by omega
    have l13 : (1 : Int) + 1 = 2 := by omega
    rw [l12] at l4
    rw [l13] at l7
    rw [r1]
    have l14 := Sm_le (y := y + 1) (show (1 : Int) ≤ 2 + 1 by omega) (show (2 : Int) + 1 ≤ 13 by omega) (Int.le_refl _)
    rw [Sm_end] at l14
    have l15 := (year_in (y := y + 1) (d := Sd (y + 1 + 1) - 1) ⟨by have := Sd_lt (show y + 1 < y + 1 + 1 by omega); omega, by omega⟩).1 h2
    omega
/-- a year whose run of a code has the day -/
def hasR (z c d : Int) : Bool := decide (runE z c = 0 ∧ loR z c ≤ d ∧ d ≤ hiR z c)
/-- what Of answers for a day of year y -/
def ofY (y c d : Int) : Int := if hasR (y - 1) c d then y - 1 else if hasR y c d then y else 0
def ofB (y c d : Int) : Bool := hasR (y - 1) c d || hasR y c d
end Go.Proofs.YtnmpejhljdkkgaaDoor
