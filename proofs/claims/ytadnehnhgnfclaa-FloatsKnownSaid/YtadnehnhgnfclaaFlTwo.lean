/-
  DERIVED. CONTRACTS of the reference's Next and Prev.
-/
import Derived.Test.YtadnehnhgnfclaaFl
namespace Go.Proofs.Ytadnehnhgnfclaa
open Go.RowKit

theorem classI_bounds (b : Nat) : 0 ≤ classI b ∧ classI b ≤ 6 := by
  unfold classI
  repeat' split
  all_goals omega
theorem class_zero {b : Nat} (h : b < 18446744073709551616) : (classI b = 0 → b = 18442240474082181120) ∧ (classI b = 1 → 9223372036854775808 < b ∧ b < 18442240474082181120) ∧ (classI b = 2 → b = 9223372036854775808) ∧ (classI b = 3 → b = 0) ∧ (classI b = 4 → 0 < b ∧ b < 9218868437227405312) ∧ (classI b = 5 → b = 9218868437227405312) := by
  have h1 := split_bits h
  have h2 := rung_lt b
  unfold classI isNan
  cases hn : isNeg b
  all_goals
    rw [hn] at h1
    simp only [Bool.false_eq_true, if_false, if_true] at h1
    refine ⟨?_, ?_, ?_, ?_, ?_, ?_⟩
    all_goals
      repeat' split
      all_goals simp only [decide_eq_true_eq] at *
      all_goals first | omega | (exfalso; contradiction)
theorem two_flt {a a' : Nat} {c : Bool} (h : a = a') : Ending.returned (.tuple #[.float .f64 a, .bool c]) = .returned (.tuple #[.float .f64 a', .bool c]) := by rw [h]
theorem refNext_is {b : Nat} {n : Nat} {c : Bool} (w : World) (hb : b < 18446744073709551616) (h : refNext b = (n, c)) :
    Calls Try.prog 14 #[.float .f64 b] w fun e w' => e = .returned (.tuple #[.float .f64 n, .bool c]) ∧ w = w' := by
  have hB := run_bits
  have hF := run_from
  obtain ⟨x, hx⟩ : ∃ x, classI b = x := ⟨_, rfl⟩
  have hcb := And.intro (classI_bounds b) (class_zero hb)
  unfold refNext at h
  rw [hx] at h hcb
  have HX := Lib.hid (fun w => class_is (r := x) w hb hx); clear hx
  have H := Lib.hid h; clear h
  have HC := Lib.hid hcb; clear hcb
  have HB := Lib.hid hb; clear hb
  go_enter Try.func14, Try.ntmps14
  go_wp2_with (go_at_call 32; refine (HX.out _).mono ?_; rintro e w' ⟨rfl, rfl⟩)
  all_goals go_ret2
  all_goals
    have h := H.out; clear H
    have hcb := HC.out; clear HC
    have hb := HB.out; clear HB
    simp only [beq_iff_eq, beq_eq_false_iff_ne, ne_eq] at *
    (repeat' split at h)
  all_goals
    simp only [Prod.mk.injEq] at h
    obtain ⟨rfl, rfl⟩ := h
  all_goals first | (exfalso; omega) | exact ⟨rfl, trivial⟩ | exact ⟨two_flt (by omega), trivial⟩ | exact ⟨two_flt (by simp only [IntKind.wrap_u64]; omega), trivial⟩
theorem refPrev_is {b : Nat} {n : Nat} {c : Bool} (w : World) (hb : b < 18446744073709551616) (h : refPrev b = (n, c)) :
    Calls Try.prog 15 #[.float .f64 b] w fun e w' => e = .returned (.tuple #[.float .f64 n, .bool c]) ∧ w = w' := by
  have hB := run_bits
  have hF := run_from
  obtain ⟨x, hx⟩ : ∃ x, classI b = x := ⟨_, rfl⟩
  have hcb := And.intro (classI_bounds b) (class_zero hb)
  unfold refPrev at h
  rw [hx] at h hcb
  have HX := Lib.hid (fun w => class_is (r := x) w hb hx); clear hx
  have H := Lib.hid h; clear h
  have HC := Lib.hid hcb; clear hcb
  have HB := Lib.hid hb; clear hb
  go_enter Try.func15, Try.ntmps15
  go_wp2_with (go_at_call 32; refine (HX.out _).mono ?_; rintro e w' ⟨rfl, rfl⟩)
  all_goals go_ret2
  all_goals
    have h := H.out; clear H
    have hcb := HC.out; clear HC
    have hb := HB.out; clear HB
    simp only [beq_iff_eq, beq_eq_false_iff_ne, ne_eq] at *
    (repeat' split at h)
  all_goals
    simp only [Prod.mk.injEq] at h
    obtain ⟨rfl, rfl⟩ := h
  all_goals first | (exfalso; omega) | exact ⟨rfl, trivial⟩ | exact ⟨two_flt (by omega), trivial⟩ | exact ⟨two_flt (by simp only [IntKind.wrap_u64]; omega), trivial⟩
end Go.Proofs.Ytadnehnhgnfclaa
