/-
  DERIVED. ENDS AS NUMBERS: which are right, their order, the next ones. No program.
-/
import Derived.Test.YtbnlomjlapnoaaaDoorCmpI
namespace Go.Proofs.YtbnlomjlapnoaaaDoor

def chkE (f d : Int) : Int := if f = 0 ∨ (f = 1 ∨ f = -1) ∧ d = 0 then 0 else 5
def cmpE (f d g e : Int) : Int := if cmpI f g = 0 then cmpI d e else cmpI f g
theorem chkE_zero {f d : Int} : chkE f d = 0 ↔ f = 0 ∨ (f = 1 ∨ f = -1) ∧ d = 0 := by
  unfold chkE
  by_cases h : f = 0 ∨ (f = 1 ∨ f = -1) ∧ d = 0
  · rw [if_pos h]; exact ⟨fun _ => h, fun _ => rfl⟩
  · rw [if_neg h]; exact ⟨fun e => by omega, fun e => absurd e h⟩
theorem cmpE_swap (f d g e : Int) : cmpE g e f d = -cmpE f d g e := by
  unfold cmpE
  rw [cmpI_swap f g, cmpI_swap d e]
  rcases cmpI_cases f g with h | h | h <;> rcases cmpI_cases d e with i | i | i <;> simp [h.2, i.2]
theorem cmpE_zero (f d g e : Int) : cmpE f d g e = 0 ↔ f = g ∧ d = e := by
  unfold cmpE
  rcases cmpI_cases f g with h | h | h <;> rcases cmpI_cases d e with i | i | i <;> simp only [h.2, i.2] <;> simp <;> omega
theorem cmpE_le (f d g e : Int) : cmpE f d g e ≤ 0 ↔ f < g ∨ f = g ∧ d ≤ e := by
  unfold cmpE
  rcases cmpI_cases f g with h | h | h <;> rcases cmpI_cases d e with i | i | i <;> simp only [h.2, i.2] <;> simp <;> omega
theorem cmpE_one (f d g e : Int) : cmpE f d g e = -1 ∨ cmpE f d g e = 0 ∨ cmpE f d g e = 1 := by
  unfold cmpE
  rcases cmpI_cases f g with h | h | h <;> rcases cmpI_cases d e with i | i | i <;> simp [h.2, i.2]
theorem cmpE_trans (f d g e h i : Int) (h1 : cmpE f d g e ≤ 0) (h2 : cmpE g e h i ≤ 0) : cmpE f d h i ≤ 0 := by
  rw [cmpE_le] at *
  omega
/-- the next end, and the one before: Inf, Day, the error -/
structure StepE (up : Bool) (f d g e c : Int) : Prop where
  bad : ¬ chkE f d = 0 → g = 0 ∧ e = 0 ∧ c = 5
  inf : chkE f d = 0 → ¬ f = 0 → g = f ∧ e = d ∧ c = 0
  over : f = 0 → d = (if up then 9223372036854775807 else -9223372036854775808) → g = 0 ∧ e = 0 ∧ c = 15
  day : f = 0 → ¬ d = (if up then 9223372036854775807 else -9223372036854775808) → g = 0 ∧ e = (if up then d + 1 else d - 1) ∧ c = 0
theorem step_is (up : Bool) (f d : Int) : ∃ g e c, StepE up f d g e c := by
  by_cases h : chkE f d = 0
  · by_cases h0 : f = 0
    · by_cases hm : d = (if up then 9223372036854775807 else -9223372036854775808)
      · exact ⟨0, 0, 15, fun x => absurd h x, fun _ x => absurd h0 x, fun _ _ => ⟨rfl, rfl, rfl⟩, fun _ x => absurd hm x⟩
      · exact ⟨0, if up then d + 1 else d - 1, 0, fun x => absurd h x, fun _ x => absurd h0 x, fun _ x => absurd x hm, fun _ _ => ⟨rfl, rfl, rfl⟩⟩
    · exact ⟨f, d, 0, fun x => absurd h x, fun _ _ => ⟨rfl, rfl, rfl⟩, fun x => absurd x h0, fun x => absurd x h0⟩
  · have h0 : ¬ f = 0 := fun x => h (chkE_zero.2 (.inl x))
    exact ⟨0, 0, 5, fun _ => ⟨rfl, rfl, rfl⟩, fun x => absurd x h, fun x => absurd x h0, fun x => absurd x h0⟩
end Go.Proofs.YtbnlomjlapnoaaaDoor
