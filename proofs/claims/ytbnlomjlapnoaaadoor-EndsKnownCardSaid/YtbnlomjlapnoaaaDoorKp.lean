/-
  DERIVED. What all walks of this seat share: a fact kept out of the walk's sight; how results are told alike; quotients and remainders.
-/
import Derived.Test.YtbnlomjlapnoaaaDoorProg
import Derived.WalkKit
import Derived.WalkSpells
import Derived.WalkLawsBesides
namespace Go.Proofs.YtbnlomjlapnoaaaDoor
open Go.RowKit

/-- a fact kept out of the walk's sight (a structure: no tactic looks through it) -/
structure Kp (p : Prop) : Prop where
  out : p
theorem ret_int {k : IntKind} {a b : Int} (h : a = b) : Ending.returned (.int k a) = .returned (.int k b) := by rw [h]
theorem ret_bool {a b : Bool} (h : a = b) : Ending.returned (.bool a) = .returned (.bool b) := by rw [h]
theorem ret_two {a b c d : Value} (h : a = c) (g : b = d) : Ending.returned (.tuple #[a, b]) = .returned (.tuple #[c, d]) := by rw [h, g]

/-- quotients and remainders as Go has them -/
theorem tmod_of {a k : Int} (hk : 0 < k) : Int.tmod a k = if 0 ≤ a ∨ a % k = 0 then a % k else a % k - k := by
  rw [Int.tmod_eq_emod]
  by_cases h : 0 ≤ a ∨ a % k = 0
  · rw [if_pos h, if_pos (by rcases h with h | h; exact .inl h; exact .inr (Int.dvd_of_emod_eq_zero h))]; omega
  · rw [if_neg h, if_neg (by
      rintro (e | e)
      · exact h (.inl e)
      · exact h (.inr (Int.emod_eq_zero_of_dvd e)))]
    omega
theorem tdiv_of {a k : Int} (hk : 0 < k) : Int.tdiv a k = if 0 ≤ a ∨ a % k = 0 then a / k else a / k + 1 := by
  rw [Int.tdiv_eq_ediv]
  by_cases h : 0 ≤ a ∨ a % k = 0
  · rw [if_pos h, if_pos (by rcases h with h | h; exact .inl h; exact .inr (Int.dvd_of_emod_eq_zero h))]; omega
  · rw [if_neg h, if_neg (by
      rintro (e | e)
      · exact h (.inl e)
      · exact h (.inr (Int.emod_eq_zero_of_dvd e))), Int.sign_eq_one_of_pos hk]
end Go.Proofs.YtbnlomjlapnoaaaDoor
