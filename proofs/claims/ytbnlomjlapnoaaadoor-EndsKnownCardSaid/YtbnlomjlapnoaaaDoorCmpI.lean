/-
  DERIVED. TWO NUMBERS COMPARED. No program.
-/
import Derived.Test.YtbnlomjlapnoaaaDoorRows
namespace Go.Proofs.YtbnlomjlapnoaaaDoor

/-- the order -/
def cmpI (a b : Int) : Int := if a < b then -1 else if b < a then 1 else 0
theorem cmpI_cases (a b : Int) : (a < b ∧ cmpI a b = -1) ∨ (a = b ∧ cmpI a b = 0) ∨ (b < a ∧ cmpI a b = 1) := by
  unfold cmpI
  by_cases h : a < b
  · left; exact ⟨h, if_pos h⟩
  · rw [if_neg h]
    by_cases g : b < a
    · right; right; exact ⟨g, if_pos g⟩
    · right; left; exact ⟨by omega, if_neg g⟩
theorem cmpI_swap (a b : Int) : cmpI b a = -cmpI a b := by
  rcases cmpI_cases a b with h | h | h <;> rcases cmpI_cases b a with g | g | g <;> first | (exfalso; omega) | simp [h.2, g.2]
end Go.Proofs.YtbnlomjlapnoaaaDoor
