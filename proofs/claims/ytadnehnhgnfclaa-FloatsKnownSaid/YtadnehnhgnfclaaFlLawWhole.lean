/-
  DERIVED. WALK of the law FloatsWhole, put together.
-/
import Derived.Test.YtadnehnhgnfclaaFlLawWholeA
import Derived.Test.YtadnehnhgnfclaaFlLawWholeB
namespace Go.Proofs.Ytadnehnhgnfclaa
open Go.RowKit

theorem lawWhole_num (x : Nat) (n : Int) (w : World) (hx : isNan x = false) (h64 : x < 18446744073709551616) (n1 : -9223372036854775808 ≤ n) (n2 : n ≤ 9223372036854775807) :
    Calls Try.prog 6 #[.float .f64 x, .int .i64 n] w fun e w' => e = .returned (.bool true) ∧ w = w' := by
  obtain ⟨y, lo, hi, a, e, b, f, c, want, isA, isB, k, j, F, hC, hk, hD, hj⟩ := whole_facts x n hx h64 n1 n2
  have hk' : k = 0 ∨ k = 1 ∨ k = 2 ∨ k = 3 := by omega
  have hj' : j = 0 ∨ j = 1 ∨ j = 2 ∨ j = 3 := by omega
  rcases F.isE with hA | hA
  · rcases hk' with rfl | rfl | rfl | rfl <;> rcases hj' with rfl | rfl | rfl | rfl
    · exact lawWhole_100 x n w F hA hC hD
    · exact lawWhole_101 x n w F hA hC hD
    · exact lawWhole_102 x n w F hA hC hD
    · exact lawWhole_103 x n w F hA hC hD
    · exact lawWhole_110 x n w F hA hC hD
    · exact lawWhole_111 x n w F hA hC hD
    · exact lawWhole_112 x n w F hA hC hD
    · exact lawWhole_113 x n w F hA hC hD
    · exact lawWhole_120 x n w F hA hC hD
    · exact lawWhole_121 x n w F hA hC hD
    · exact lawWhole_122 x n w F hA hC hD
    · exact lawWhole_123 x n w F hA hC hD
    · exact lawWhole_130 x n w F hA hC hD
    · exact lawWhole_131 x n w F hA hC hD
    · exact lawWhole_132 x n w F hA hC hD
    · exact lawWhole_133 x n w F hA hC hD
  · rcases hk' with rfl | rfl | rfl | rfl <;> rcases hj' with rfl | rfl | rfl | rfl
    · exact lawWhole_000 x n w F hA hC hD
    · exact lawWhole_001 x n w F hA hC hD
    · exact lawWhole_002 x n w F hA hC hD
    · exact lawWhole_003 x n w F hA hC hD
    · exact lawWhole_010 x n w F hA hC hD
    · exact lawWhole_011 x n w F hA hC hD
    · exact lawWhole_012 x n w F hA hC hD
    · exact lawWhole_013 x n w F hA hC hD
    · exact lawWhole_020 x n w F hA hC hD
    · exact lawWhole_021 x n w F hA hC hD
    · exact lawWhole_022 x n w F hA hC hD
    · exact lawWhole_023 x n w F hA hC hD
    · exact lawWhole_030 x n w F hA hC hD
    · exact lawWhole_031 x n w F hA hC hD
    · exact lawWhole_032 x n w F hA hC hD
    · exact lawWhole_033 x n w F hA hC hD
theorem lawWhole_any (x : Nat) (n : Int) (w : World) (h64 : x < 18446744073709551616) (n1 : -9223372036854775808 ≤ n) (n2 : n ≤ 9223372036854775807) :
    Calls Try.prog 6 #[.float .f64 x, .int .i64 n] w fun e w' => e = .returned (.bool true) ∧ Below w.heap.size w w' := by
  cases hx : isNan x
  · exact (lawWhole_num x n w hx h64 n1 n2).mono fun _ _ ⟨g, k⟩ => ⟨g, by rw [← k]; exact Below.refl _ _⟩
  · exact lawWhole_nan x n w hx
end Go.Proofs.Ytadnehnhgnfclaa
