/-
  DERIVED. WALK of the law FloatsOrder.
-/
import Derived.Test.YtadnehnhgnfclaaFlLives
import Derived.Test.YtadnehnhgnfclaaFlTwo
namespace Go.Proofs.Ytadnehnhgnfclaa
open Go.RowKit

theorem cmpZ_bounds (a b : Int) : -1 ≤ cmpZ a b ∧ cmpZ a b ≤ 1 := by unfold cmpZ; repeat' split
                                                                     all_goals omega
theorem cmpZ_swap (a b : Int) : cmpZ b a = -cmpZ a b := by unfold cmpZ; repeat' split
                                                           all_goals omega
theorem cmpZ_self (a : Int) : cmpZ a a = 0 := by unfold cmpZ; simp
theorem cmpZ_pos (a b : Int) : cmpZ a b ≤ 0 ↔ a ≤ b := by unfold cmpZ; repeat' split
                                                          all_goals omega
theorem rank_same {a b : Nat} (ha : a < 18446744073709551616) (hb : b < 18446744073709551616) : sameB a b = (cmpZ (rankI a) (rankI b) == 0) := by
  have h1 := split_bits ha
  have h2 := split_bits hb
  have h3 := rung_lt a
  have h4 := rung_lt b
  have hz : (cmpZ (rankI a) (rankI b) == 0) = decide (rankI a = rankI b) := by
    unfold cmpZ
    by_cases h : rankI a = rankI b
    · rw [h]; simp
    · by_cases l : rankI a < rankI b
      · simp [l, h]
      · have : rankI b < rankI a := by omega
        simp [l, this, h]
  rw [hz]
  unfold sameB rankI
  cases na : isNan a <;> cases nb : isNan b
  · simp only [Bool.false_and, Bool.false_or, Bool.false_eq_true, if_false]
    have e : (a == b) = decide (a = b) := rfl
    rw [e]
    congr 1
    apply propext
    cases sa : isNeg a <;> cases sb : isNeg b <;> rw [sa] at h1 <;> rw [sb] at h2 <;> simp only [Bool.false_eq_true, if_false, if_true] at h1 h2 ⊢ <;> constructor <;> intro h <;> omega
  · have hl : rung a ≤ 9218868437227405312 := rung_inf na
    have hn : 9218868437227405312 < rung b := of_decide_eq_true nb
    have e : (a == b) = false := by rw [beq_eq_false_iff_ne]; exact fun c => by rw [c] at hl; omega
    rw [e]
    simp only [Bool.false_and, Bool.or_false, Bool.false_eq_true, if_false, if_true]
    symm
    rw [decide_eq_false_iff_not]
    split <;> omega
  · have hl : rung b ≤ 9218868437227405312 := rung_inf nb
    have hn : 9218868437227405312 < rung a := of_decide_eq_true na
    have e : (a == b) = false := by rw [beq_eq_false_iff_ne]; exact fun c => by rw [c] at hn; omega
    rw [e]
    simp only [Bool.and_false, Bool.or_false, Bool.false_eq_true, if_false, if_true]
    symm
    rw [decide_eq_false_iff_not]
    split <;> omega
  · simp
theorem classI_rank {b : Nat} (h : b < 18446744073709551616) : classI b = if rankI b = 9218868437227405313 then 6 else if rankI b = 9218868437227405312 then 5 else if rankI b = -9218868437227405313 then 0 else if rankI b = 0 then 3 else if rankI b = -1 then 2 else if rankI b < 0 then 1 else 4 := by
  have h1 := split_bits h
  have h3 := rung_lt b
  unfold classI rankI
  cases nb : isNan b
  · have hl : rung b ≤ 9218868437227405312 := rung_inf nb
    cases sb : isNeg b
    · rw [sb] at h1; simp only [Bool.false_eq_true, if_false] at h1 ⊢
      repeat' split
      all_goals omega
    · rw [sb] at h1; simp only [Bool.false_eq_true, if_false, if_true] at h1 ⊢
      repeat' split
      all_goals omega
  · simp
theorem key_rank {b : Nat} (h : isNan b = false) : key b = if rankI b < 0 then rankI b + 1 else rankI b := by
  unfold key rankI; rw [h]
  cases isNeg b
  · simp; omega
  · simp only [if_true, Bool.false_eq_true, if_false]; rw [if_pos (by omega)]; omega
theorem nan_rank (b : Nat) : isNan b = decide (rankI b = 9218868437227405313) := by
  unfold rankI
  cases h : isNan b
  · have hl : rung b ≤ 9218868437227405312 := rung_inf h
    simp
    split <;> omega
  · simp
theorem rank_top (b : Nat) : -9218868437227405313 ≤ rankI b ∧ rankI b ≤ 9218868437227405313 := by
  unfold rankI
  cases h : isNan b
  · have hl : rung b ≤ 9218868437227405312 := rung_inf h
    simp only [Bool.false_eq_true, if_false]
    split <;> omega
  · simp
theorem fLt_num {a b : Nat} (ha : isNan a = false) (hb : isNan b = false) : fLt a b = decide (key a < key b) := by unfold fLt; rw [ha, hb]; rfl
theorem fLt_nan {a b : Nat} (h : isNan a = true ∨ isNan b = true) : fLt a b = false := by
  unfold fLt
  rcases h with h | h
  · rw [h]; rfl
  · rw [h]; cases isNan a <;> rfl
theorem nan_is_rank {b : Nat} (h : isNan b = true) : rankI b = 9218868437227405313 := by unfold rankI; rw [h]; rfl
theorem num_is_rank {b : Nat} (h : isNan b = false) : rankI b ≤ 9218868437227405312 := by
  have hl : rung b ≤ 9218868437227405312 := rung_inf h
  unfold rankI; rw [h]; simp only [Bool.false_eq_true, if_false]
  split <;> omega
theorem class_nan {b : Nat} (h : isNan b = true) : classI b = 6 := by unfold classI; rw [h]; rfl
theorem class_num {b : Nat} (h : b < 18446744073709551616) (hn : isNan b = false) : classI b = if rankI b = 9218868437227405312 then 5 else if rankI b = -9218868437227405313 then 0 else if rankI b = 0 then 3 else if rankI b = -1 then 2 else if rankI b < 0 then 1 else 4 := by
  have := num_is_rank hn
  rw [classI_rank h, if_neg (by omega)]
set_option maxHeartbeats 4000000 in
theorem refOrder_rank {a b : Nat} (ha : a < 18446744073709551616) (hb : b < 18446744073709551616) : refOrder a b = cmpZ (rankI a) (rankI b) := by
  have ta := rank_top a
  have tb := rank_top b
  unfold refOrder cmpZ
  cases na : isNan a <;> cases nb : isNan b
  · rw [fLt_num na nb, fLt_num nb na, class_num ha na, class_num hb nb, key_rank na, key_rank nb]
    have la := num_is_rank na
    have lb := num_is_rank nb
    generalize rankI a = x at *
    generalize rankI b = y at *
    clear na nb ha hb
    simp only [decide_eq_true_eq]
    by_cases h : x < y
    · rw [if_pos h]
      repeat' split
      all_goals omega
    · rw [if_neg h]
      by_cases h2 : y < x
      · rw [if_pos h2]
        repeat' split
        all_goals omega
      · have : x = y := by omega
        subst this
        simp
  · have la := num_is_rank na
    have lb := nan_is_rank nb
    rw [class_nan nb, class_num ha na, if_pos (show rankI a < rankI b by omega)]
    repeat' split
    all_goals omega
  · have la := nan_is_rank na
    have lb := num_is_rank nb
    rw [class_nan na, class_num hb nb, if_neg (show ¬ rankI a < rankI b by omega), if_pos (show rankI b < rankI a by omega)]
    repeat' split
    all_goals omega
  · rw [fLt_nan (.inl na), fLt_nan (.inl nb), class_nan na, class_nan nb, nan_is_rank na, nan_is_rank nb]; simp
set_option maxRecDepth 100000 in
set_option maxHeartbeats 1000000 in
theorem lawOrder_any (a b c : Nat) (w : World) (ha : a < 18446744073709551616) (hb : b < 18446744073709551616) (hc : c < 18446744073709551616) :
    Calls Try.prog 3 #[.float .f64 a, .float .f64 b, .float .f64 c] w fun e w' => e = .returned (.bool true) ∧ w = w' := by
  obtain ⟨n, hn⟩ : ∃ n, cmpZ (rankI a) (rankI b) = n := ⟨_, rfl⟩
  obtain ⟨p, hp⟩ : ∃ n, cmpZ (rankI b) (rankI c) = n := ⟨_, rfl⟩
  obtain ⟨q, hq⟩ : ∃ n, cmpZ (rankI a) (rankI c) = n := ⟨_, rfl⟩
  have h1 := Lib.hid (fun w => order_is w ha hb hn)
  have h2 := Lib.hid (fun w => refOrder_is w ha hb ((refOrder_rank ha hb).trans hn))
  have h3 := Lib.hid (fun w => order_is (c := -n) w hb ha (by rw [cmpZ_swap, hn]))
  have h4 := Lib.hid (fun w => same_is (c := (n == 0)) w ((rank_same ha hb).trans (by rw [hn])))
  have h5 := Lib.hid (fun w => order_is (c := 0) w ha ha (cmpZ_self _))
  have h6 := Lib.hid (fun w => order_is w hb hc hp)
  have h7 := Lib.hid (fun w => order_is w ha hc hq)
  have bn := cmpZ_bounds (rankI a) (rankI b)
  rw [hn] at bn
  obtain ⟨bn1, bn2⟩ := bn
  have htr : 0 < n ∨ n ≤ 0 ∧ 0 < p ∨ n ≤ 0 ∧ p ≤ 0 ∧ q ≤ 0 := by
    have t1 := cmpZ_pos (rankI a) (rankI b)
    have t2 := cmpZ_pos (rankI b) (rankI c)
    have t3 := cmpZ_pos (rankI a) (rankI c)
    rw [hn] at t1; rw [hp] at t2; rw [hq] at t3
    omega
  clear hn hp hq ha hb hc
  rcases htr with t | ⟨t, t'⟩ | ⟨t, t', t''⟩
  · go_enter Try.func3, Try.ntmps3
    go_wp2_with fail
    refine (h1.out _).mono ?_
    rintro e w' ⟨rfl, rfl⟩
    go_wp2_with fail
    refine (h2.out _).mono ?_
    rintro e w' ⟨rfl, rfl⟩
    go_wp2_with fail
    refine (h3.out _).mono ?_
    rintro e w' ⟨rfl, rfl⟩
    go_wp2_with fail
    refine (h4.out _).mono ?_
    rintro e w' ⟨rfl, rfl⟩
    go_wp2_with fail
    refine (h5.out _).mono ?_
    rintro e w' ⟨rfl, rfl⟩
    go_wp2_with fail
    refine (lives_any _).mono ?_
    rintro e w' ⟨rfl, rfl⟩
    go_wp2
    go_ret
    exact ⟨rfl, rfl⟩
  · go_enter Try.func3, Try.ntmps3
    go_wp2_with fail
    refine (h1.out _).mono ?_
    rintro e w' ⟨rfl, rfl⟩
    go_wp2_with fail
    refine (h2.out _).mono ?_
    rintro e w' ⟨rfl, rfl⟩
    go_wp2_with fail
    refine (h3.out _).mono ?_
    rintro e w' ⟨rfl, rfl⟩
    go_wp2_with fail
    refine (h4.out _).mono ?_
    rintro e w' ⟨rfl, rfl⟩
    go_wp2_with fail
    refine (h5.out _).mono ?_
    rintro e w' ⟨rfl, rfl⟩
    go_wp2_with fail
    refine (h6.out _).mono ?_
    rintro e w' ⟨rfl, rfl⟩
    go_wp2_with fail
    refine (lives_any _).mono ?_
    rintro e w' ⟨rfl, rfl⟩
    go_wp2
    go_ret
    exact ⟨rfl, rfl⟩
  · go_enter Try.func3, Try.ntmps3
    go_wp2_with fail
    refine (h1.out _).mono ?_
    rintro e w' ⟨rfl, rfl⟩
    go_wp2_with fail
    refine (h2.out _).mono ?_
    rintro e w' ⟨rfl, rfl⟩
    go_wp2_with fail
    refine (h3.out _).mono ?_
    rintro e w' ⟨rfl, rfl⟩
    go_wp2_with fail
    refine (h4.out _).mono ?_
    rintro e w' ⟨rfl, rfl⟩
    go_wp2_with fail
    refine (h5.out _).mono ?_
    rintro e w' ⟨rfl, rfl⟩
    go_wp2_with fail
    refine (h6.out _).mono ?_
    rintro e w' ⟨rfl, rfl⟩
    go_wp2_with fail
    refine (h7.out _).mono ?_
    rintro e w' ⟨rfl, rfl⟩
    go_wp2_with fail
    refine (lives_any _).mono ?_
    rintro e w' ⟨rfl, rfl⟩
    go_wp2
    go_ret
    exact ⟨rfl, rfl⟩
end Go.Proofs.Ytadnehnhgnfclaa
