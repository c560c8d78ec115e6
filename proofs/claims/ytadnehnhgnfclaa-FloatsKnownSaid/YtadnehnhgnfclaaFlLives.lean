/-
  DERIVED. CONTRACT of the statements' own function lives (layer 2).
-/
import Derived.Test.YtadnehnhgnfclaaFlAround
namespace Go.Proofs.Ytadnehnhgnfclaa
open Go.RowKit

theorem inf_is (w : World) : Calls Try.prog 27 #[.int .i64 1] w fun e w' => e = .returned (.float .f64 9218868437227405312) ∧ w = w' := by
  have hF := run_from
  go_enter Try.func27, Try.ntmps27
  go_wp2
  go_ret
  exact ⟨ret_flt (by decide), rfl⟩
theorem nan_is (w : World) : Calls Try.prog 29 #[] w fun e w' => e = .returned (.float .f64 9221120237041090561) ∧ w = w' := by
  have hF := run_from
  go_enter Try.func29, Try.ntmps29
  go_wp2
  go_ret
  exact ⟨ret_flt (by decide), rfl⟩
theorem copysign_is (w : World) : Calls Try.prog 28 #[.float .f64 0, .float .f64 13830554455654793216] w fun e w' => e = .returned (.float .f64 9223372036854775808) ∧ w = w' := by
  have hF := run_from
  have hB := run_bits
  go_enter Try.func28, Try.ntmps28
  go_wp2
  go_ret
  exact ⟨ret_flt (by decide), rfl⟩
def lawWholeB (n e want : Int) : Bool := n == want && e == 0
theorem lawWhole_is {n e want : Int} {c : Bool} (w : World) (h : lawWholeB n e want = c) :
    Calls Try.prog 26 #[.int .i64 n, .int .i64 e, .int .i64 want] w fun x w' => x = .returned (.bool c) ∧ w = w' := by
  unfold lawWholeB at h
  cases g : (n == want)
  · rw [g] at h
    have H := Lib.hid h; clear h
    go_enter Try.func26, Try.ntmps26
    go_wp2
    go_ret
    exact ⟨ret_bool H.out, rfl⟩
  · rw [g] at h
    have H := Lib.hid h; clear h
    go_enter Try.func26, Try.ntmps26
    go_wp2
    go_ret
    exact ⟨ret_bool H.out, rfl⟩
theorem lv1 (w : World) : Calls Try.prog 27 #[.int .i64 1] w fun e w' => e = .returned (.float .f64 9218868437227405312) ∧ w = w' := inf_is w
theorem lv2 (w : World) : Calls Try.prog 29 #[] w fun e w' => e = .returned (.float .f64 9221120237041090561) ∧ w = w' := nan_is w
theorem lv3 (w : World) : Calls Try.prog 28 #[.float .f64 0, .float .f64 13830554455654793216] w fun e w' => e = .returned (.float .f64 9223372036854775808) ∧ w = w' := copysign_is w
theorem lv4 (w : World) : Calls Try.prog 8 #[.float .f64 9223372036854775808, .float .f64 0] w fun e w' => e = .returned (.int .i64 (-1)) ∧ w = w' := order_is w (by decide) (by decide) (by decide)
theorem lv5 (w : World) : Calls Try.prog 8 #[.float .f64 9221120237041090561, .float .f64 9218868437227405312] w fun e w' => e = .returned (.int .i64 1) ∧ w = w' := order_is w (by decide) (by decide) (by decide)
theorem lv6 (w : World) : Calls Try.prog 8 #[.float .f64 9221120237041090561, .float .f64 18444492273895866369] w fun e w' => e = .returned (.int .i64 0) ∧ w = w' := order_is w (by decide) (by decide) (by decide)
theorem lv7 (w : World) : Calls Try.prog 8 #[.float .f64 4607182418800017408, .float .f64 4607182418800017408] w fun e w' => e = .returned (.int .i64 0) ∧ w = w' := order_is w (by decide) (by decide) (by decide)
theorem lv8 (w : World) : Calls Try.prog 12 #[.float .f64 9223372036854775808] w fun e w' => e = .returned (.tuple #[.float .f64 0, .int .i64 0]) ∧ w = w' := next_is w (by decide) (by decide)
theorem lv9 (w : World) : Calls Try.prog 12 #[.float .f64 9218868437227405311] w fun e w' => e = .returned (.tuple #[.float .f64 9218868437227405312, .int .i64 0]) ∧ w = w' := next_is w (by decide) (by decide)
theorem lv10 (w : World) : Calls Try.prog 12 #[.float .f64 9218868437227405312] w fun e w' => e = .returned (.tuple #[.float .f64 0, .int .i64 16]) ∧ w = w' := next_is w (by decide) (by decide)
theorem lv11 (w : World) : Calls Try.prog 13 #[.float .f64 0] w fun e w' => e = .returned (.tuple #[.float .f64 9223372036854775808, .int .i64 0]) ∧ w = w' := prev_is w (by decide) (by decide)
theorem lv12 (w : World) : Calls Try.prog 16 #[.float .f64 0, .int .i64 0, .float .f64 0, .bool true] w fun e w' => e = .returned (.bool true) ∧ w = w' := gives_is w (by decide)
theorem lv13 (w : World) : Calls Try.prog 16 #[.float .f64 9218868437227405312, .int .i64 0, .float .f64 9218868437227405312, .bool true] w fun e w' => e = .returned (.bool true) ∧ w = w' := gives_is w (by decide)
theorem lv14 (w : World) : Calls Try.prog 16 #[.float .f64 0, .int .i64 16, .float .f64 0, .bool false] w fun e w' => e = .returned (.bool true) ∧ w = w' := gives_is w (by decide)
theorem lv15 (w : World) : Calls Try.prog 16 #[.float .f64 9223372036854775808, .int .i64 0, .float .f64 9223372036854775808, .bool true] w fun e w' => e = .returned (.bool true) ∧ w = w' := gives_is w (by decide)
theorem lv16 (w : World) : Calls Try.prog 17 #[.int .i64 9007199254740993] w fun e w' => e = .returned (.float .f64 4845873199050653696) ∧ w = w' := down_is (n := 9007199254740993) (g := 4845873199050653696) w (by decide) (by decide) (by unfold At; decide +kernel) (by decide +kernel)
theorem lv17 (w : World) : Calls Try.prog 18 #[.int .i64 9007199254740993] w fun e w' => e = .returned (.float .f64 4845873199050653697) ∧ w = w' := up_is (n := 9007199254740993) (g := 4845873199050653696) w (by decide) (by decide) (by unfold At; decide +kernel) (by decide +kernel)
theorem lv18 (w : World) : Calls Try.prog 18 #[.int .i64 9223372036854775807] w fun e w' => e = .returned (.float .f64 4890909195324358656) ∧ w = w' := up_is (n := 9223372036854775807) (g := 4890909195324358655) w (by decide) (by decide) (by unfold At; decide +kernel) (by decide +kernel)
theorem lv19 (w : World) : Calls Try.prog 17 #[.int .i64 (-9223372036854775808)] w fun e w' => e = .returned (.float .f64 14114281232179134464) ∧ w = w' := down_is (n := (-9223372036854775808)) (g := 4890909195324358656) w (by decide) (by decide) (by unfold At; decide +kernel) (by decide +kernel)
theorem lv20 (w : World) : Calls Try.prog 21 #[.int .i64 9007199254740993] w fun e w' => e = .returned (.bool false) ∧ w = w' := exact_is (n := 9007199254740993) (g := 4845873199050653696) w (by decide) (by decide) (by unfold At; decide +kernel) (by decide +kernel)
theorem lv21 (w : World) : Calls Try.prog 21 #[.int .i64 (-7)] w fun e w' => e = .returned (.bool true) ∧ w = w' := exact_is (n := (-7)) (g := 4619567317775286272) w (by decide) (by decide) (by unfold At; decide +kernel) (by decide +kernel)
theorem lv22 (w : World) : Calls Try.prog 23 #[.float .f64 13826050856027422720] w fun e w' => e = .returned (.tuple #[.int .i64 (-1), .int .i64 0]) ∧ w = w' := fFloor_is w (by decide) (by decide +kernel) (by decide +kernel)
theorem lv23 (w : World) : Calls Try.prog 24 #[.float .f64 13826050856027422720] w fun e w' => e = .returned (.tuple #[.int .i64 0, .int .i64 0]) ∧ w = w' := fCeil_is w (by decide) (by decide +kernel) (by decide +kernel)
theorem lv24 (w : World) : Calls Try.prog 23 #[.float .f64 4890909195324358656] w fun e w' => e = .returned (.tuple #[.int .i64 0, .int .i64 15]) ∧ w = w' := fFloor_is w (by decide) (by decide +kernel) (by decide +kernel)
theorem lv25 (w : World) : Calls Try.prog 24 #[.float .f64 9221120237041090561] w fun e w' => e = .returned (.tuple #[.int .i64 0, .int .i64 1]) ∧ w = w' := fCeil_is w (by decide) (by decide +kernel) (by decide +kernel)
theorem lv26 (w : World) : Calls Try.prog 26 #[.int .i64 (-1), .int .i64 0, .int .i64 (-1)] w fun e w' => e = .returned (.bool true) ∧ w = w' := lawWhole_is w (by decide)
theorem lv27 (w : World) : Calls Try.prog 26 #[.int .i64 0, .int .i64 0, .int .i64 0] w fun e w' => e = .returned (.bool true) ∧ w = w' := lawWhole_is w (by decide)
theorem lv28 (w : World) : Calls Try.prog 22 #[.float .f64 4845873199050653696, .int .i64 9007199254740993] w fun e w' => e = .returned (.tuple #[.int .i64 (-1), .int .i64 0]) ∧ w = w' := fCmp_is w (by decide) (by decide) (by decide) (by decide) (by decide +kernel)
theorem lv29 (w : World) : Calls Try.prog 22 #[.float .f64 9223372036854775808, .int .i64 0] w fun e w' => e = .returned (.tuple #[.int .i64 0, .int .i64 0]) ∧ w = w' := fCmp_is w (by decide) (by decide) (by decide) (by decide) (by decide +kernel)
theorem lv30 (w : World) : Calls Try.prog 22 #[.float .f64 9218868437227405312, .int .i64 9223372036854775807] w fun e w' => e = .returned (.tuple #[.int .i64 1, .int .i64 0]) ∧ w = w' := fCmp_is w (by decide) (by decide) (by decide) (by decide) (by decide +kernel)
set_option maxRecDepth 100000 in
set_option maxHeartbeats 2000000 in
theorem lives_any (w : World) :
    Calls Try.prog 11 #[] w fun e w' => e = .returned (.bool true) ∧ w = w' := by
  have hF : ∀ w, (callFunc 34 #[.int .u64 18444492273895866369]).run Try.prog w = .ok (.value (.float .f64 18444492273895866369)) w := fun w => run_from _ w
  have hE0 : (FloatKind.f64.format.order 4845873199050653696 4845873199050653696 != some Ordering.eq) = false := by rw [ord_ne, fEq_self]; decide
  have hE1 : (FloatKind.f64.format.order 4845873199050653697 4845873199050653697 != some Ordering.eq) = false := by rw [ord_ne, fEq_self]; decide
  have hE2 : (FloatKind.f64.format.order 4890909195324358656 4890909195324358656 != some Ordering.eq) = false := by rw [ord_ne, fEq_self]; decide
  have hE3 : (FloatKind.f64.format.order 14114281232179134464 14114281232179134464 != some Ordering.eq) = false := by rw [ord_ne, fEq_self]; decide
  go_enter Try.func11, Try.ntmps11
  go_wp2_with fail
  refine (lv1 _).mono ?_
  rintro e w' ⟨rfl, rfl⟩
  go_wp2_with fail
  refine (lv2 _).mono ?_
  rintro e w' ⟨rfl, rfl⟩
  go_wp2_with fail
  refine (lv3 _).mono ?_
  rintro e w' ⟨rfl, rfl⟩
  go_wp2_with fail
  refine (lv4 _).mono ?_
  rintro e w' ⟨rfl, rfl⟩
  go_wp2_with fail
  refine (lv5 _).mono ?_
  rintro e w' ⟨rfl, rfl⟩
  go_wp2_with fail
  refine (lv6 _).mono ?_
  rintro e w' ⟨rfl, rfl⟩
  go_wp2_with fail
  refine (lv7 _).mono ?_
  rintro e w' ⟨rfl, rfl⟩
  go_wp2_with fail
  refine (lv8 _).mono ?_
  rintro e w' ⟨rfl, rfl⟩
  go_wp2_with fail
  refine (lv9 _).mono ?_
  rintro e w' ⟨rfl, rfl⟩
  go_wp2_with fail
  refine (lv10 _).mono ?_
  rintro e w' ⟨rfl, rfl⟩
  go_wp2_with fail
  refine (lv11 _).mono ?_
  rintro e w' ⟨rfl, rfl⟩
  go_wp2_with fail
  refine (lv12 _).mono ?_
  rintro e w' ⟨rfl, rfl⟩
  go_wp2_with fail
  refine (lv13 _).mono ?_
  rintro e w' ⟨rfl, rfl⟩
  go_wp2_with fail
  refine (lv14 _).mono ?_
  rintro e w' ⟨rfl, rfl⟩
  go_wp2_with fail
  refine (lv15 _).mono ?_
  rintro e w' ⟨rfl, rfl⟩
  go_wp2_with fail
  refine (lv16 _).mono ?_
  rintro e w' ⟨rfl, rfl⟩
  go_wp2_with fail
  refine (lv17 _).mono ?_
  rintro e w' ⟨rfl, rfl⟩
  go_wp2_with fail
  refine (lv18 _).mono ?_
  rintro e w' ⟨rfl, rfl⟩
  go_wp2_with fail
  refine (lv19 _).mono ?_
  rintro e w' ⟨rfl, rfl⟩
  go_wp2_with fail
  refine (lv20 _).mono ?_
  rintro e w' ⟨rfl, rfl⟩
  go_wp2_with fail
  refine (lv21 _).mono ?_
  rintro e w' ⟨rfl, rfl⟩
  go_wp2_with fail
  refine (lv22 _).mono ?_
  rintro e w' ⟨rfl, rfl⟩
  go_wp2_with fail
  refine (lv23 _).mono ?_
  rintro e w' ⟨rfl, rfl⟩
  go_wp2_with fail
  refine (lv24 _).mono ?_
  rintro e w' ⟨rfl, rfl⟩
  go_wp2_with fail
  refine (lv25 _).mono ?_
  rintro e w' ⟨rfl, rfl⟩
  go_wp2_with fail
  refine (lv26 _).mono ?_
  rintro e w' ⟨rfl, rfl⟩
  go_wp2_with fail
  refine (lv27 _).mono ?_
  rintro e w' ⟨rfl, rfl⟩
  go_wp2_with fail
  refine (lv28 _).mono ?_
  rintro e w' ⟨rfl, rfl⟩
  go_wp2_with fail
  refine (lv29 _).mono ?_
  rintro e w' ⟨rfl, rfl⟩
  go_wp2_with fail
  refine (lv30 _).mono ?_
  rintro e w' ⟨rfl, rfl⟩
  go_wp2_with fail
  go_ret
  exact ⟨rfl, rfl⟩
end Go.Proofs.Ytadnehnhgnfclaa
