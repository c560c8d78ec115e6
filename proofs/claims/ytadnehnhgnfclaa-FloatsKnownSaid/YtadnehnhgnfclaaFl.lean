/-
  DERIVED. CONTRACTS of package floats (layer 2) and its reference: rankOf, numberAt, step, Next, Prev, Order; class, Order, Next, Prev; same, gives.
-/
import Derived.Test.YtadnehnhgnfclaaProg
import Derived.Test.YtadnehnhgnfclaaFlMath
import Derived.WalkKit
import Derived.WalkSpells
import Derived.WalkLawsBesides
import Derived.Lib.Hide
import Derived.Laws.FloatArith
import Derived.Laws.Externs
namespace Go.Proofs.Ytadnehnhgnfclaa
open Go.RowKit

theorem ret_int {k : IntKind} {a b : Int} (h : a = b) : Ending.returned (.int k a) = .returned (.int k b) := by rw [h]
theorem ret_flt {a b : Nat} (h : a = b) : Ending.returned (.float .f64 a) = .returned (.float .f64 b) := by rw [h]
theorem ret_bool {a b : Bool} (h : a = b) : Ending.returned (.bool a) = .returned (.bool b) := by rw [h]
theorem ret_two {a b c d : Value} (h : a = c) (g : b = d) : Ending.returned (.tuple #[a, b]) = .returned (.tuple #[c, d]) := by rw [h, g]

theorem int_beq (a b : Nat) : ((a : Int) == (b : Int)) = (a == b) := by
  by_cases h : a = b
  · subst h; simp
  · have : ¬ (a : Int) = b := by omega
    rw [beq_eq_false_iff_ne.2 h, beq_eq_false_iff_ne.2 this]
theorem run_bits (b : Nat) (w : World) : (callFunc 33 #[.float .f64 b]).run Try.prog w = .ok (.value (.int .u64 b)) w := by
  rw [run_callFunc_extern (e := Extern.MathFloatBits.float64bits) Try.func33 (by kernel_rfl) (by kernel_rfl) (by kernel_rfl) (by kernel_rfl)]
  rfl
theorem run_from (n : Int) (w : World) : (callFunc 34 #[.int .u64 n]).run Try.prog w = .ok (.value (.float .f64 n.toNat)) w := by
  rw [run_callFunc_extern (e := Extern.MathFloatBits.float64frombits) Try.func34 (by kernel_rfl) (by kernel_rfl) (by kernel_rfl) (by kernel_rfl)]
  rfl
theorem wrap_rung (b : Nat) : wrap64 (rung b : Int) = rung b := by have := rung_lt b; unfold wrap64; omega

theorem rank_is {b : Nat} {r : Int} (w : World) (hb : b < 18446744073709551616) (hr : rankI b = r) :
    Calls Try.prog 31 #[.float .f64 b] w fun e w' => e = .returned (.int .i64 r) ∧ w = w' := by
  have hB := run_bits
  have HR := Lib.hid hr; clear hr
  go_enter Try.func31, Try.ntmps31
  go_wp2
  all_goals go_ret
  · refine ⟨ret_int ?_, rfl⟩
    rename_i h1
    rw [bits_mag hb, wrap_rung] at h1
    rw [← HR.out]; unfold rankI isNan
    rw [if_pos (by simp; omega)]
  · refine ⟨ret_int ?_, rfl⟩
    rename_i h1 h2
    rw [bits_mag hb, wrap_rung] at h1
    rw [bits_sign hb] at h2
    rw [← HR.out, bits_mag hb, wrap_rung, i64_not_pos _ (rung_lt b)]
    unfold rankI isNan
    rw [if_neg (by simp; omega)]
    cases hn : isNeg b
    · rw [hn] at h2; simp at h2
    · rfl
  · refine ⟨ret_int ?_, rfl⟩
    rename_i h1 h2
    rw [bits_mag hb, wrap_rung] at h1
    rw [bits_sign hb] at h2
    rw [← HR.out, bits_mag hb, wrap_rung]
    unfold rankI isNan
    rw [if_neg (by simp; omega)]
    cases hn : isNeg b
    · rfl
    · rw [hn] at h2; simp at h2

theorem number_is {r : Int} {n : Nat} (w : World) (h : -9223372036854775808 ≤ r) (h' : r ≤ 9223372036854775807) (hn : numB r = n) :
    Calls Try.prog 45 #[.int .i64 r] w fun e w' => e = .returned (.float .f64 n) ∧ w = w' := by
  have hB := run_from
  by_cases hr : r < 0
  · obtain ⟨k, rfl⟩ : ∃ k : Nat, r = -(k : Int) - 1 := ⟨(-1 - r).toNat, by omega⟩
    have HN := Lib.hid hn; clear hn
    go_enter Try.func45, Try.ntmps45
    go_wp2
    all_goals go_ret
    all_goals refine ⟨ret_flt ?_, rfl⟩
    all_goals
      rw [← HN.out]; unfold numB
      rw [if_pos (by omega), i64_not_neg k (by omega), IntKind.wrap_u64]
      rw [show ((k : Int) % 18446744073709551616) = (k : Int) by omega, bits_sign_or (by omega)]
      omega
  · have HN := Lib.hid hn; clear hn
    go_enter Try.func45, Try.ntmps45
    go_wp2
    all_goals go_ret
    all_goals refine ⟨ret_flt ?_, rfl⟩
    all_goals
      rw [← HN.out]; unfold numB
      rw [if_neg (by omega)]

theorem step_is {b : Nat} {last d : Int} {n : Nat} {c : Int} (w : World) (h : b < 18446744073709551616) (hd : d = 1 ∧ last = 9218868437227405312 ∨ d = -1 ∧ last = -9218868437227405313) (hs : stepB b last d = (n, c)) :
    Calls Try.prog 35 #[.float .f64 b, .int .i64 last, .int .i64 d] w fun e w' => e = .returned (.tuple #[.float .f64 n, .int .i64 c]) ∧ w = w' := by
  obtain ⟨r, hr⟩ : ∃ r, rankI b = r := ⟨_, rfl⟩
  have hb := rankI_bounds b
  rw [hr] at hb
  obtain ⟨m, hm⟩ : ∃ m, numB (r + d) = m := ⟨_, rfl⟩
  unfold stepB at hs
  rw [hr, hm] at hs
  have hcall : ∀ w, Calls Try.prog 31 #[.float .f64 b] w fun e w' => e = .returned (.int .i64 r) ∧ w = w' := fun w => rank_is w h hr
  obtain ⟨hb1, hb2⟩ := hb
  have hin : ¬ (r = last ∨ r = 9218868437227405313) → -9223372036854775808 ≤ r + d ∧ r + d ≤ 9223372036854775807 := by
    have := rung_lt b
    unfold rankI isNan at hr
    intro hx
    split at hr
    · omega
    · rename_i h9
      simp at h9
      split at hr <;> omega
  by_cases hx : r = last ∨ r = 9218868437227405313
  · rw [if_pos hx] at hs
    have HS := Lib.hid hs; clear hs hin hm hr
    have HC := Lib.hid hcall; clear hcall
    have hx' : (r == last) = true ∨ (r == last) = false ∧ (r == 9218868437227405313) = true := by
      by_cases e : r = last
      · exact .inl (by simp [e])
      · exact .inr ⟨by simp [e], by have := hx.resolve_left e; simp [this]⟩
    clear hx hd
    rcases hx' with e1 | ⟨e1, e2⟩
    all_goals
      go_enter Try.func35, Try.ntmps35
      go_wp2_with (go_at_call 31; refine (HC.out _).mono ?_; rintro e w' ⟨rfl, rfl⟩)
      go_ret2
      have := HS.out
      simp only [Prod.mk.injEq] at this
      obtain ⟨rfl, rfl⟩ := this
      exact ⟨rfl, rfl⟩
  · rw [if_neg hx] at hs
    obtain ⟨hi1, hi2⟩ := hin hx
    have HS := Lib.hid hs; clear hs hin hr
    have HC := Lib.hid hcall; clear hcall
    have e1 : (r == last) = false := by simpa using fun e => hx (.inl e)
    have e2 : (r == 9218868437227405313) = false := by simpa using fun e => hx (.inr e)
    have HM := Lib.hid hm; clear hm hx hd
    go_enter Try.func35, Try.ntmps35
    go_wp2_with (first | (go_at_call 31; refine (HC.out _).mono ?_; rintro e w' ⟨rfl, rfl⟩) | (go_at_call 45; refine (number_is _ hi1 hi2 HM.out).mono ?_; rintro e w' ⟨rfl, rfl⟩))
    go_ret2
    have := HS.out
    simp only [Prod.mk.injEq] at this
    obtain ⟨rfl, rfl⟩ := this
    exact ⟨rfl, rfl⟩
theorem next_is {b : Nat} {n : Nat} {c : Int} (w : World) (h : b < 18446744073709551616) (hs : stepB b 9218868437227405312 1 = (n, c)) :
    Calls Try.prog 12 #[.float .f64 b] w fun e w' => e = .returned (.tuple #[.float .f64 n, .int .i64 c]) ∧ w = w' := by
  have HS := Lib.hid hs; clear hs
  go_enter Try.func12, Try.ntmps12
  go_wp2_with (go_at_call 35; refine (step_is _ h (.inl ⟨rfl, rfl⟩) HS.out).mono ?_; rintro e w' ⟨rfl, rfl⟩)
  go_ret2
  exact ⟨rfl, rfl⟩
theorem prev_is {b : Nat} {n : Nat} {c : Int} (w : World) (h : b < 18446744073709551616) (hs : stepB b (-9218868437227405313) (-1) = (n, c)) :
    Calls Try.prog 13 #[.float .f64 b] w fun e w' => e = .returned (.tuple #[.float .f64 n, .int .i64 c]) ∧ w = w' := by
  have HS := Lib.hid hs; clear hs
  go_enter Try.func13, Try.ntmps13
  go_wp2_with (go_at_call 35; refine (step_is _ h (.inr ⟨rfl, rfl⟩) HS.out).mono ?_; rintro e w' ⟨rfl, rfl⟩)
  go_ret2
  exact ⟨rfl, rfl⟩
theorem compare_rank {a b c : Int} (w : World) (h : cmpZ a b = c) :
    Calls Try.prog 30 #[.int .i64 a, .int .i64 b] w fun e w' => e = .returned (.int .i64 c) ∧ w = w' := by
  have H := Lib.hid h; clear h
  go_enter Try.func30, Try.ntmps30
  go_wp2
  all_goals go_ret
  all_goals refine ⟨ret_int ?_, rfl⟩
  all_goals
    rw [← H.out]; unfold cmpZ
    repeat' split
  all_goals omega
theorem order_is {a b : Nat} {c : Int} (w : World) (ha : a < 18446744073709551616) (hb : b < 18446744073709551616) (h : cmpZ (rankI a) (rankI b) = c) :
    Calls Try.prog 8 #[.float .f64 a, .float .f64 b] w fun e w' => e = .returned (.int .i64 c) ∧ w = w' := by
  have H := Lib.hid h; clear h
  go_enter Try.func8, Try.ntmps8
  go_wp2_with fail
  refine (rank_is _ ha rfl).mono ?_
  rintro e w' ⟨rfl, rfl⟩
  go_wp2_with fail
  refine (rank_is _ hb rfl).mono ?_
  rintro e w' ⟨rfl, rfl⟩
  go_wp2_with fail
  refine (compare_rank _ H.out).mono ?_
  rintro e w' ⟨rfl, rfl⟩
  go_wp2_with fail
  go_ret
  exact ⟨rfl, rfl⟩
theorem class_is {b : Nat} {r : Int} (w : World) (hb : b < 18446744073709551616) (hr : classI b = r) :
    Calls Try.prog 32 #[.float .f64 b] w fun e w' => e = .returned (.int .i64 r) ∧ w = w' := by
  have hB := run_bits
  have HR := Lib.hid hr; clear hr
  go_enter Try.func32, Try.ntmps32
  go_wp2
  all_goals go_ret
  all_goals refine ⟨ret_int ?_, rfl⟩
  all_goals rw [← HR.out]; clear HR
  all_goals simp only [ord_ne, ord_lt, fEq_self, Bool.not_not, beq_iff_eq, beq_eq_false_iff_ne, ne_eq] at *
  all_goals unfold classI
  · rename_i h1; simp [h1]
  · rw [show b = 9218868437227405312 by omega]; decide
  · rw [show b = 18442240474082181120 by omega]; decide
  · rw [show b = 0 by omega]; decide
  · rw [show b = 9223372036854775808 by omega]; decide
  · rename_i h1 h2 h3 h4 h5 h6
    rw [fLt_zero' hb h1 (by omega)] at h6
    simp [h1, h6, show ¬ b = 9218868437227405312 by omega, show ¬ b = 18442240474082181120 by omega, show ¬ b = 0 by omega, show ¬ b = 9223372036854775808 by omega]
  · rename_i h1 h2 h3 h4 h5 h6
    rw [fLt_zero' hb h1 (by omega)] at h6
    simp [h1, h6, show ¬ b = 9218868437227405312 by omega, show ¬ b = 18442240474082181120 by omega, show ¬ b = 0 by omega, show ¬ b = 9223372036854775808 by omega]
theorem same_is {a b : Nat} {c : Bool} (w : World) (h : sameB a b = c) :
    Calls Try.prog 10 #[.float .f64 a, .float .f64 b] w fun e w' => e = .returned (.bool c) ∧ w = w' := by
  have hB := run_bits
  have H := Lib.hid h; clear h
  go_enter Try.func10, Try.ntmps10
  go_wp2
  all_goals go_ret
  all_goals refine ⟨ret_bool ?_, rfl⟩
  all_goals rw [← H.out]; clear H
  all_goals simp only [ordP_eq, fEq_self, Bool.not_eq_true'] at *
  all_goals unfold sameB
  · rename_i h1; rw [h1]; exact int_beq a b
  · rename_i h1 h2; rw [h2, Bool.and_false]; exact int_beq a b
  · rename_i h1 h2; simp [h1, h2]
def givesB (x : Nat) (e : Int) (want : Nat) (there : Bool) : Bool := if there then sameB x want && e == 0 else sameB x 0 && e == 16
theorem gives_is {x want : Nat} {e : Int} {there c : Bool} (w : World) (h : givesB x e want there = c) :
    Calls Try.prog 16 #[.float .f64 x, .int .i64 e, .float .f64 want, .bool there] w fun e w' => e = .returned (.bool c) ∧ w = w' := by
  have H := Lib.hid h; clear h
  cases there
  · cases hs : sameB x 0
    all_goals
      go_enter Try.func16, Try.ntmps16
      go_wp2_with (go_at_call 10; refine (same_is _ hs).mono ?_; rintro e w' ⟨rfl, rfl⟩)
      go_ret
      refine ⟨ret_bool ?_, rfl⟩
      rw [← H.out]; unfold givesB; rw [hs]; rfl
  · cases hs : sameB x want
    all_goals
      go_enter Try.func16, Try.ntmps16
      go_wp2_with (go_at_call 10; refine (same_is _ hs).mono ?_; rintro e w' ⟨rfl, rfl⟩)
      go_ret
      refine ⟨ret_bool ?_, rfl⟩
      rw [← H.out]; unfold givesB; rw [hs]; rfl
theorem refOrder_is {a b : Nat} {c : Int} (w : World) (ha : a < 18446744073709551616) (hb : b < 18446744073709551616) (h : refOrder a b = c) :
    Calls Try.prog 9 #[.float .f64 a, .float .f64 b] w fun e w' => e = .returned (.int .i64 c) ∧ w = w' := by
  obtain ⟨x, hx⟩ : ∃ x, classI a = x := ⟨_, rfl⟩
  obtain ⟨y, hy⟩ : ∃ y, classI b = y := ⟨_, rfl⟩
  unfold refOrder at h
  rw [hx, hy] at h
  have HX := Lib.hid (fun w => class_is (r := x) w ha hx); clear hx
  have HY := Lib.hid (fun w => class_is (r := y) w hb hy); clear hy
  by_cases e : x = y
  · rw [if_pos e] at h
    have e1 : (x != y) = false := by simp [e]
    have H := Lib.hid h; clear h e
    go_enter Try.func9, Try.ntmps9
    go_wp2_with fail
    refine (HX.out _).mono ?_
    rintro e w' ⟨rfl, rfl⟩
    go_wp2_with fail
    refine (HY.out _).mono ?_
    rintro e w' ⟨rfl, rfl⟩
    go_wp2
    all_goals go_ret
    all_goals refine ⟨ret_int ?_, rfl⟩
    all_goals rw [← H.out]; clear H
    all_goals simp only [ord_lt, ord_gt] at *
    · rename_i h1; rw [h1]; rfl
    · rename_i h1 h2; rw [h1, h2]; rfl
    · rename_i h1 h2; rw [h1, h2]; rfl
  · rw [if_neg e] at h
    have e1 : (x != y) = true := by simp [e]
    by_cases l : x < y
    · rw [if_pos l] at h
      have H := Lib.hid h; clear h e
      go_enter Try.func9, Try.ntmps9
      go_wp2_with fail
      refine (HX.out _).mono ?_
      rintro e w' ⟨rfl, rfl⟩
      go_wp2_with fail
      refine (HY.out _).mono ?_
      rintro e w' ⟨rfl, rfl⟩
      go_wp2_with fail
      refine (HX.out _).mono ?_
      rintro e w' ⟨rfl, rfl⟩
      go_wp2_with fail
      refine (HY.out _).mono ?_
      rintro e w' ⟨rfl, rfl⟩
      go_wp2_with fail
      go_ret
      exact ⟨ret_int H.out, rfl⟩
    · rw [if_neg l] at h
      have H := Lib.hid h; clear h e
      go_enter Try.func9, Try.ntmps9
      go_wp2_with fail
      refine (HX.out _).mono ?_
      rintro e w' ⟨rfl, rfl⟩
      go_wp2_with fail
      refine (HY.out _).mono ?_
      rintro e w' ⟨rfl, rfl⟩
      go_wp2_with fail
      refine (HX.out _).mono ?_
      rintro e w' ⟨rfl, rfl⟩
      go_wp2_with fail
      refine (HY.out _).mono ?_
      rintro e w' ⟨rfl, rfl⟩
      go_wp2_with fail
      go_ret
      exact ⟨ret_int H.out, rfl⟩
end Go.Proofs.Ytadnehnhgnfclaa
