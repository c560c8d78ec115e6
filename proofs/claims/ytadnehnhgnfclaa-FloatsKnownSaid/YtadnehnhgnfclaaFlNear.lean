/-
  DERIVED. CONTRACTS of floats.Floor, Ceil, Cmp, around, Down, Up, Exact.
-/
import Derived.Test.YtadnehnhgnfclaaFlWhole
namespace Go.Proofs.Ytadnehnhgnfclaa
open Go.RowKit

theorem quiet_num {b : Nat} (h : isNan b = false) : quietB b = true := by
  unfold quietB
  show (match Ieee.double.read b with | .nan _ t => _ | _ => true) = true
  by_cases hi : rung b = 9218868437227405312
  · rw [read_inf hi]
  · rw [read_num h hi]
theorem fFloor_is {b : Nat} {n c : Int} (w : World) (hb : b < 18446744073709551616) (hq : quietB b = true) (hr : wholR .down b = (n, c)) :
    Calls Try.prog 23 #[.float .f64 b] w fun e w' => e = .returned (.tuple #[.int .i64 n, .int .i64 c]) ∧ w = w' := by
  have H := Lib.hid (fun w => whole_is (f := 42) (.inl rfl) .down (by decide) w hb (fun w => floor_is w hq rfl) hr); clear hr hq
  go_enter Try.func23, Try.ntmps23
  go_wp2_with fail
  refine (H.out _).mono ?_
  rintro e w' ⟨rfl, rfl⟩
  go_wp2
  go_ret2
  exact ⟨rfl, rfl⟩
theorem fCeil_is {b : Nat} {n c : Int} (w : World) (hb : b < 18446744073709551616) (hq : quietB b = true) (hr : wholR .up b = (n, c)) :
    Calls Try.prog 24 #[.float .f64 b] w fun e w' => e = .returned (.tuple #[.int .i64 n, .int .i64 c]) ∧ w = w' := by
  have H := Lib.hid (fun w => whole_is (f := 43) (.inr rfl) .up (by decide) w hb (fun w => ceil_is w hq rfl) hr); clear hr hq
  go_enter Try.func24, Try.ntmps24
  go_wp2_with fail
  refine (H.out _).mono ?_
  rintro e w' ⟨rfl, rfl⟩
  go_wp2
  go_ret2
  exact ⟨rfl, rfl⟩
theorem compare_flt {a b : Nat} {c : Int} (w : World) (ha : isNan a = false) (hb : isNan b = false) (h : cmpZ (sV a) (sV b) = c) :
    Calls Try.prog 39 #[.float .f64 a, .float .f64 b] w fun e w' => e = .returned (.int .i64 c) ∧ w = w' := by
  have h1 : (FloatKind.f64.format.order a a != some Ordering.eq) = false := by rw [ord_ne, fEq_self, ha]; rfl
  have h2 : (FloatKind.f64.format.order b b != some Ordering.eq) = false := by rw [ord_ne, fEq_self, hb]; rfl
  rw [← cmpZ_key] at h
  unfold cmpZ at h
  by_cases l : key a < key b
  · rw [if_pos l] at h
    have h3 : (FloatKind.f64.format.order a b == some Ordering.lt) = true := by rw [ord_lt]; unfold fLt; rw [ha, hb]; simp [l]
    have H := Lib.hid h; clear h l
    go_enter Try.func39, Try.ntmps39
    go_wp2
    go_ret
    exact ⟨ret_int H.out, rfl⟩
  · rw [if_neg l] at h
    have h3 : (FloatKind.f64.format.order a b == some Ordering.lt) = false := by rw [ord_lt]; unfold fLt; rw [ha, hb]; simp [l]
    by_cases g : key b < key a
    · rw [if_pos g] at h
      have h4 : (FloatKind.f64.format.order a b == some Ordering.gt) = true := by rw [ord_gt]; unfold fLt; rw [ha, hb]; simp [g]
      have H := Lib.hid h; clear h l g
      go_enter Try.func39, Try.ntmps39
      go_wp2
      go_ret
      exact ⟨ret_int H.out, rfl⟩
    · rw [if_neg g] at h
      have h4 : (FloatKind.f64.format.order a b == some Ordering.gt) = false := by rw [ord_gt]; unfold fLt; rw [ha, hb]; simp [g]
      have H := Lib.hid h; clear h l g
      go_enter Try.func39, Try.ntmps39
      go_wp2
      go_ret
      exact ⟨ret_int H.out, rfl⟩
theorem compare_i64 {a b c : Int} (w : World) (h : cmpZ a b = c) :
    Calls Try.prog 40 #[.int .i64 a, .int .i64 b] w fun e w' => e = .returned (.int .i64 c) ∧ w = w' := by
  have H := Lib.hid h; clear h
  go_enter Try.func40, Try.ntmps40
  go_wp2
  all_goals go_ret
  all_goals refine ⟨ret_int ?_, rfl⟩
  all_goals
    rw [← H.out]; unfold cmpZ
    repeat' split
  all_goals omega
/-- x against n, as exact numbers -/
theorem fCmp_is {x : Nat} {n c : Int} (w : World) (hx : x < 18446744073709551616) (hn : isNan x = false) (n1 : -9223372036854775808 ≤ n) (n2 : n ≤ 9223372036854775807) (h : cmpZ (sV x) (n * U) = c) :
    Calls Try.prog 22 #[.float .f64 x, .int .i64 n] w fun e w' => e = .returned (.tuple #[.int .i64 c, .int .i64 0]) ∧ w = w' := by
  have U0 : (0 : Int) < U := by have := U_pos; omega
  by_cases hout : wholR .down x = (0, 15)
  · have hc : cmpZ (sV x) (sV 0) = c := by
      rw [← h, sV_zero]
      unfold wholR at hout
      rw [hn] at hout
      simp only [Bool.false_eq_true, if_false] at hout
      by_cases hi : rung x = 9218868437227405312
      · rw [sV_inf hi, cmpZ_scale, show (0 : Int) = 0 * U by simp, cmpZ_scale]
        have := top_big
        unfold sg cmpZ
        cases isNeg x
        · simp only [Bool.false_eq_true, if_false]
          generalize 2 ^ top = z at *
          rw [if_neg (by omega), if_pos (by omega), if_neg (by omega), if_pos (by omega)]
        · simp only [if_true]
          generalize 2 ^ top = z at *
          rw [if_pos (by omega), if_pos (by omega)]
      · rw [if_neg hi] at hout
        split at hout
        · simp at hout
        · rename_i ho
          obtain ⟨p1, p2⟩ := floor_prop x
          generalize sg (isNeg x) (whol .down x) = f at *
          by_cases hlo : f < -9223372036854775808
          · have a1 : (f + 1) * U ≤ n * U := Int.mul_le_mul_of_nonneg_right (by omega) (by omega)
            have a2 : (f + 1) * U ≤ 0 * U := Int.mul_le_mul_of_nonneg_right (by omega) (by omega)
            rw [Int.zero_mul] at a2
            unfold cmpZ
            rw [if_pos (by omega), if_pos (by omega)]
          · have a1 : (n + 1) * U ≤ f * U := Int.mul_le_mul_of_nonneg_right (by omega) (by omega)
            have a2 : (0 + 1) * U ≤ f * U := Int.mul_le_mul_of_nonneg_right (by omega) (by omega)
            rw [Int.add_mul] at a1 a2
            unfold cmpZ
            rw [if_neg (by omega), if_pos (by omega), if_neg (by omega), if_pos (by omega)]
    have HF := Lib.hid (fun w => fFloor_is w hx (quiet_num hn) hout); clear hout
    have HC := Lib.hid (fun w => compare_flt (b := 0) w hn (by decide) hc); clear hc h
    go_enter Try.func22, Try.ntmps22
    go_wp2_with fail
    refine (HF.out _).mono ?_
    rintro e w' ⟨rfl, rfl⟩
    go_wp2_with fail
    refine (HC.out _).mono ?_
    rintro e w' ⟨rfl, rfl⟩
    go_wp2
    go_ret2
    exact ⟨rfl, rfl⟩
  · obtain ⟨f, hf⟩ : ∃ f, sg (isNeg x) (whol .down x) = f := ⟨_, rfl⟩
    have hin : wholR .down x = (f, 0) ∧ rung x ≠ 9218868437227405312 ∧ -9223372036854775808 ≤ f ∧ f ≤ 9223372036854775807 := by
      unfold wholR at hout ⊢
      rw [hn] at hout ⊢
      simp only [Bool.false_eq_true, if_false] at hout ⊢
      by_cases hi : rung x = 9218868437227405312
      · rw [if_pos hi] at hout; exact absurd rfl hout
      · rw [if_neg hi] at hout ⊢
        rw [hf] at hout ⊢
        split at hout
        · rename_i h2; rw [if_pos h2]; exact ⟨rfl, hi, h2.1, h2.2⟩
        · exact absurd rfl hout
    obtain ⟨hin, hi, f1, f2⟩ := hin
    obtain ⟨p1, p2⟩ := floor_prop x
    rw [hf] at p1 p2
    have HF := Lib.hid (fun w => fFloor_is w hx (quiet_num hn) hin); clear hin hout
    by_cases he : f = n
    · subst he
      obtain ⟨g, g1, g2, g3⟩ := round_fin .down (by decide) hn hi
      have hk : f.natAbs = whol .down x := by rw [← hf]; unfold sg; cases isNeg x <;> simp
      have hy := ofInt_exact (n := f) (g := g) (by omega) (by rw [g2, hk]) g1
      have hsy : sV (dw (decide (f < 0)) g) = f * U := by
        rw [sV_dw g1 g2, ← hk]; unfold sg
        by_cases hf0 : f < 0
        · simp only [hf0, decide_true, if_true]; congr 1; omega
        · simp only [hf0, decide_false, Bool.false_eq_true, if_false]; congr 1; omega
      have hcc : cmpZ (sV x) (sV (dw (decide (f < 0)) g)) = c := by rw [hsy]; exact h
      obtain ⟨y, hyy⟩ : ∃ y, dw (decide (f < 0)) g = y := ⟨_, rfl⟩
      rw [hyy] at hcc hy
      have hny : isNan y = false := hyy ▸ nan_dw g1
      have HC := Lib.hid (fun w => compare_flt w hn hny hcc); clear hcc h hf hsy hk hyy p1 p2
      have hconv : floatOfInt .f64 f = y := hy
      clear hy
      have hff : (f != f) = false := by simp
      have HY := Lib.hid hconv; clear hconv
      go_enter Try.func22, Try.ntmps22
      go_wp2_with fail
      refine (HF.out _).mono ?_
      rintro e w' ⟨rfl, rfl⟩
      go_wp2_with fail
      rw [HY.out]
      refine (HC.out _).mono ?_
      rintro e w' ⟨rfl, rfl⟩
      go_wp2
      go_ret2
      exact ⟨rfl, rfl⟩
    · have hcc : cmpZ f n = c := by
        rw [← h, ← cmpZ_scale f n]
        unfold cmpZ
        by_cases hl : f < n
        · have a1 : (f + 1) * U ≤ n * U := Int.mul_le_mul_of_nonneg_right (by omega) (by omega)
          have a2 := (mulU_lt f n).2 hl
          rw [if_pos a2, if_pos (by omega)]
        · have a2 := (mulU_lt n f).2 (by omega)
          rw [if_neg (by omega), if_pos a2, if_neg (by omega), if_pos (by omega)]
      have e1 : (f != n) = true := by simp [he]
      have HC := Lib.hid (fun w => compare_i64 w hcc); clear hcc h hf he p1 p2
      go_enter Try.func22, Try.ntmps22
      go_wp2_with fail
      refine (HF.out _).mono ?_
      rintro e w' ⟨rfl, rfl⟩
      go_wp2_with fail
      refine (HC.out _).mono ?_
      rintro e w' ⟨rfl, rfl⟩
      go_wp2
      go_ret2
      exact ⟨rfl, rfl⟩
end Go.Proofs.Ytadnehnhgnfclaa
