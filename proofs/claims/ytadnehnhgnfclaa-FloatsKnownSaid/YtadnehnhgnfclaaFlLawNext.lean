/-
  DERIVED. WALK of the law FloatsNext.
-/
import Derived.Test.YtadnehnhgnfclaaFlLawOrder
namespace Go.Proofs.Ytadnehnhgnfclaa
open Go.RowKit

theorem num_rank {x : Nat} (hx : x < 18446744073709551616) (hn : isNan x = false) : x = numB (rankI x) := by
  have h1 := split_bits hx
  unfold rankI numB
  rw [hn]
  cases hs : isNeg x
  · rw [hs] at h1
    simp only [Bool.false_eq_true, if_false] at h1 ⊢
    rw [if_neg (by omega)]; omega
  · rw [hs] at h1
    simp only [if_true, Bool.false_eq_true, if_false] at h1 ⊢
    rw [if_pos (by omega)]; omega
theorem num_dw (r : Int) : numB r = if r < 0 then dw true (-1 - r).toNat else dw false r.toNat := by
  unfold numB dw; split <;> simp
theorem rank_num {r : Int} (h1 : -9218868437227405313 ≤ r) (h2 : r ≤ 9218868437227405312) : rankI (numB r) = r ∧ isNan (numB r) = false ∧ numB r < 18446744073709551616 := by
  rw [num_dw]
  by_cases h : r < 0
  · rw [if_pos h]
    exact ⟨by rw [rank_dw_neg (by omega)]; omega, nan_dw' (by omega), dw_lt (by omega)⟩
  · rw [if_neg h]
    exact ⟨by rw [rank_dw_pos (by omega)]; omega, nan_dw' (by omega), dw_lt (by omega)⟩
theorem next_none {x : Nat} (hx : x < 18446744073709551616) (h : rankI x = 9218868437227405312 ∨ isNan x = true) : stepB x 9218868437227405312 1 = (0, 16) ∧ refNext x = (0, false) := by
  have hr : rankI x = 9218868437227405312 ∨ rankI x = 9218868437227405313 := h.imp id nan_is_rank
  have hc := classI_rank hx
  unfold stepB refNext
  rw [if_pos hr]
  refine ⟨rfl, ?_⟩
  rw [if_pos]
  rcases hr with hr | hr
  · rw [hr] at hc; left; rw [hc]; rfl
  · rw [hr] at hc; right; rw [hc]; rfl
theorem prev_none {x : Nat} (hx : x < 18446744073709551616) (h : rankI x = -9218868437227405313 ∨ isNan x = true) : stepB x (-9218868437227405313) (-1) = (0, 16) ∧ refPrev x = (0, false) := by
  have hr : rankI x = -9218868437227405313 ∨ rankI x = 9218868437227405313 := h.imp id nan_is_rank
  have hc := classI_rank hx
  unfold stepB refPrev
  rw [if_pos hr]
  refine ⟨rfl, ?_⟩
  rw [if_pos]
  rcases hr with hr | hr
  · rw [hr] at hc; left; rw [hc]; rfl
  · rw [hr] at hc; right; rw [hc]; rfl
theorem next_some {x : Nat} (hx : x < 18446744073709551616) (hn : isNan x = false) (h : rankI x ≠ 9218868437227405312) :
    stepB x 9218868437227405312 1 = (numB (rankI x + 1), 0) ∧ refNext x = (numB (rankI x + 1), true) ∧ rankI (numB (rankI x + 1)) = rankI x + 1 ∧ numB (rankI x + 1) < 18446744073709551616 ∧ stepB (numB (rankI x + 1)) (-9218868437227405313) (-1) = (x, 0) := by
  have t := rank_top x
  have l := num_is_rank hn
  have hx2 := num_rank hx hn
  have hc := class_num hx hn
  obtain ⟨q1, q2, q3⟩ := rank_num (r := rankI x + 1) (by omega) (by omega)
  refine ⟨?_, ?_, q1, q3, ?_⟩
  · unfold stepB; rw [if_neg (by omega)]
  · unfold refNext
    rw [hc]
    rw [hx2]
    rw [← hx2]
    generalize rankI x = r at *
    clear hc q1 q2 q3 hn hx
    unfold numB at hx2 ⊢
    by_cases hm : r = -1
    · subst hm; rw [hx2]; decide
    · by_cases h0 : r < 0
      · rw [if_pos h0] at hx2
        rw [if_pos (show r + 1 < 0 by omega)]
        by_cases hb : r = -9218868437227405313
        · subst hb
          rw [hx2]; decide
        · rw [if_neg h, if_neg hb, if_neg (show ¬ r = 0 by omega), if_neg hm, if_pos h0, if_neg (by decide), if_neg (by decide), if_pos (.inr rfl)]
          congr 1; omega
      · rw [if_neg h0] at hx2
        rw [if_neg (show ¬ r + 1 < 0 by omega)]
        by_cases hz : r = 0
        · subst hz
          rw [hx2]; decide
        · rw [if_neg h, if_neg (show ¬ r = -9218868437227405313 by omega), if_neg hz, if_neg hm, if_neg h0, if_neg (by decide), if_neg (by decide), if_neg (by decide)]
          congr 1; omega
  · unfold stepB
    rw [q1, if_neg (by omega), show rankI x + 1 + -1 = rankI x by omega, ← hx2]
theorem prev_some {x : Nat} (hx : x < 18446744073709551616) (hn : isNan x = false) (h : rankI x ≠ -9218868437227405313) :
    stepB x (-9218868437227405313) (-1) = (numB (rankI x - 1), 0) ∧ refPrev x = (numB (rankI x - 1), true) := by
  have t := rank_top x
  have l := num_is_rank hn
  have hx2 := num_rank hx hn
  have hc := class_num hx hn
  refine ⟨?_, ?_⟩
  · unfold stepB; rw [if_neg (by omega), show rankI x + -1 = rankI x - 1 by omega]
  · unfold refPrev
    rw [hc]
    generalize rankI x = r at *
    clear hc hn hx
    unfold numB at hx2 ⊢
    by_cases hm : r = 0
    · subst hm; rw [hx2]; decide
    · by_cases h0 : r < 0
      · rw [if_pos h0] at hx2
        rw [if_pos (show r - 1 < 0 by omega)]
        by_cases hb : r = -1
        · subst hb
          rw [hx2]; decide
        · rw [if_neg (show ¬ r = 9218868437227405312 by omega), if_neg h, if_neg hm, if_neg hb, if_pos h0, if_neg (by decide), if_neg (by decide), if_pos (.inl rfl)]
          congr 1; omega
      · rw [if_neg h0] at hx2
        rw [if_neg (show ¬ r - 1 < 0 by omega)]
        by_cases hz : r = 9218868437227405312
        · subst hz
          rw [hx2]; decide
        · rw [if_neg hz, if_neg h, if_neg hm, if_neg (show ¬ r = -1 by omega), if_neg h0, if_neg (by decide), if_neg (by decide), if_neg (by decide)]
          congr 1; omega
theorem prev_gives {x : Nat} (hx : x < 18446744073709551616) : ∃ b f l t, stepB x (-9218868437227405313) (-1) = (b, f) ∧ refPrev x = (l, t) ∧ givesB b f l t = true := by
  by_cases h : rankI x = -9218868437227405313 ∨ isNan x = true
  · obtain ⟨h1, h2⟩ := prev_none hx h
    exact ⟨_, _, _, _, h1, h2, by decide⟩
  · have hn : isNan x = false := by simpa using fun c => h (.inr c)
    obtain ⟨h1, h2⟩ := prev_some hx hn (fun c => h (.inl c))
    exact ⟨_, _, _, _, h1, h2, by unfold givesB sameB; simp⟩
set_option maxRecDepth 100000 in
set_option maxHeartbeats 1000000 in
theorem lawNext_none (x y : Nat) (w : World) (hx : x < 18446744073709551616) (h : rankI x = 9218868437227405312 ∨ isNan x = true) :
    Calls Try.prog 4 #[.float .f64 x, .float .f64 y] w fun e w' => e = .returned (.bool true) ∧ w = w' := by
  obtain ⟨n1, n2⟩ := next_none hx h
  obtain ⟨b, f, l, t, p1, p2, p3⟩ := prev_gives hx
  have h1 := Lib.hid (fun w => next_is w hx n1)
  have h2 := Lib.hid (fun w => prev_is w hx p1)
  have h3 := Lib.hid (fun w => refNext_is w hx n2)
  have h4 := Lib.hid (fun w => refPrev_is w hx p2)
  have h5 := Lib.hid (fun w => gives_is (x := 0) (e := 16) (want := 0) (there := false) (c := true) w (by decide))
  have h6 := Lib.hid (fun w => gives_is w p3)
  clear n1 n2 p1 p2 p3 hx h
  go_enter Try.func4, Try.ntmps4
  go_wp2_with fail
  refine (h1.out _).mono ?_
  rintro e w' ⟨rfl, rfl⟩
  go_wp2_with fail
  refine (h2.out _).mono ?_
  rintro e w' ⟨rfl, rfl⟩
  go_wp2_with fail
  refine (h3.out _).mono ?_
  rintro e w' ⟨rfl, rfl⟩
  go_wp2_with fail
  refine (h4.out _).mono ?_
  rintro e w' ⟨rfl, rfl⟩
  go_wp2_with fail
  refine (h5.out _).mono ?_
  rintro e w' ⟨rfl, rfl⟩
  go_wp2_with fail
  refine (h6.out _).mono ?_
  rintro e w' ⟨rfl, rfl⟩
  go_wp2_with fail
  refine (lives_any _).mono ?_
  rintro e w' ⟨rfl, rfl⟩
  go_wp2
  go_ret
  exact ⟨rfl, rfl⟩
set_option maxRecDepth 100000 in
set_option maxHeartbeats 2000000 in
theorem lawNext_some (x y : Nat) (w : World) (hx : x < 18446744073709551616) (hy : y < 18446744073709551616) (hn : isNan x = false) (hr : rankI x ≠ 9218868437227405312) :
    Calls Try.prog 4 #[.float .f64 x, .float .f64 y] w fun e w' => e = .returned (.bool true) ∧ w = w' := by
  obtain ⟨n1, n2, n3, n4, n5⟩ := next_some hx hn hr
  generalize numB (rankI x + 1) = a at *
  obtain ⟨b, f, l, t, p1, p2, p3⟩ := prev_gives hx
  obtain ⟨p, hp⟩ : ∃ n, cmpZ (rankI x) (rankI y) = n := ⟨_, rfl⟩
  obtain ⟨q, hq⟩ : ∃ n, cmpZ (rankI y) (rankI a) = n := ⟨_, rfl⟩
  have h1 := Lib.hid (fun w => next_is w hx n1)
  have h2 := Lib.hid (fun w => prev_is w hx p1)
  have h3 := Lib.hid (fun w => refNext_is w hx n2)
  have h4 := Lib.hid (fun w => refPrev_is w hx p2)
  have h5 := Lib.hid (fun w => gives_is (x := a) (e := 0) (want := a) (there := true) (c := true) w (by unfold givesB sameB; simp))
  have h6 := Lib.hid (fun w => gives_is w p3)
  have h7 := Lib.hid (fun w => prev_is w n4 n5)
  have h8 := Lib.hid (fun w => gives_is (x := x) (e := 0) (want := x) (there := true) (c := true) w (by unfold givesB sameB; simp))
  have h9 := Lib.hid (fun w => order_is (c := -1) w hx n4 (by rw [n3]; unfold cmpZ; rw [if_pos (by omega)]))
  have h10 := Lib.hid (fun w => order_is w hx hy hp)
  have h11 := Lib.hid (fun w => order_is w hy n4 hq)
  have htr : 0 ≤ p ∨ p < 0 ∧ 0 ≤ q := by
    rw [n3] at hq
    unfold cmpZ at hp hq
    repeat' split at hp
    all_goals (repeat' split at hq)
    all_goals omega
  clear n1 n2 n3 n4 n5 p1 p2 p3 hx hy hp hq hn hr
  rcases htr with t1 | ⟨t1, t2⟩
  · go_enter Try.func4, Try.ntmps4
    go_wp2_with fail
    refine (h1.out _).mono ?_
    rintro e w' ⟨rfl, rfl⟩
    go_wp2_with fail
    refine (h2.out _).mono ?_
    rintro e w' ⟨rfl, rfl⟩
    go_wp2_with fail
    refine (h3.out _).mono ?_
    rintro e w' ⟨rfl, rfl⟩
    go_wp2_with fail
    refine (h4.out _).mono ?_
    rintro e w' ⟨rfl, rfl⟩
    go_wp2_with fail
    refine (h5.out _).mono ?_
    rintro e w' ⟨rfl, rfl⟩
    go_wp2_with fail
    refine (h6.out _).mono ?_
    rintro e w' ⟨rfl, rfl⟩
    go_wp2_with fail
    refine (h7.out _).mono ?_
    rintro e w' ⟨rfl, rfl⟩
    go_wp2_with fail
    refine (h8.out _).mono ?_
    rintro e w' ⟨rfl, rfl⟩
    go_wp2_with fail
    refine (h9.out _).mono ?_
    rintro e w' ⟨rfl, rfl⟩
    go_wp2_with fail
    refine (h10.out _).mono ?_
    rintro e w' ⟨rfl, rfl⟩
    go_wp2_with fail
    refine (lives_any _).mono ?_
    rintro e w' ⟨rfl, rfl⟩
    go_wp2
    go_ret
    exact ⟨rfl, rfl⟩
  · go_enter Try.func4, Try.ntmps4
    go_wp2_with fail
    refine (h1.out _).mono ?_
    rintro e w' ⟨rfl, rfl⟩
    go_wp2_with fail
    refine (h2.out _).mono ?_
    rintro e w' ⟨rfl, rfl⟩
    go_wp2_with fail
    refine (h3.out _).mono ?_
    rintro e w' ⟨rfl, rfl⟩
    go_wp2_with fail
    refine (h4.out _).mono ?_
    rintro e w' ⟨rfl, rfl⟩
    go_wp2_with fail
    refine (h5.out _).mono ?_
    rintro e w' ⟨rfl, rfl⟩
    go_wp2_with fail
    refine (h6.out _).mono ?_
    rintro e w' ⟨rfl, rfl⟩
    go_wp2_with fail
    refine (h7.out _).mono ?_
    rintro e w' ⟨rfl, rfl⟩
    go_wp2_with fail
    refine (h8.out _).mono ?_
    rintro e w' ⟨rfl, rfl⟩
    go_wp2_with fail
    refine (h9.out _).mono ?_
    rintro e w' ⟨rfl, rfl⟩
    go_wp2_with fail
    refine (h10.out _).mono ?_
    rintro e w' ⟨rfl, rfl⟩
    go_wp2_with fail
    refine (h11.out _).mono ?_
    rintro e w' ⟨rfl, rfl⟩
    go_wp2_with fail
    refine (lives_any _).mono ?_
    rintro e w' ⟨rfl, rfl⟩
    go_wp2
    go_ret
    exact ⟨rfl, rfl⟩
theorem lawNext_any (x y : Nat) (w : World) (hx : x < 18446744073709551616) (hy : y < 18446744073709551616) :
    Calls Try.prog 4 #[.float .f64 x, .float .f64 y] w fun e w' => e = .returned (.bool true) ∧ w = w' := by
  by_cases h : rankI x = 9218868437227405312 ∨ isNan x = true
  · exact lawNext_none x y w hx h
  · exact lawNext_some x y w hx hy (by simpa using fun c => h (.inr c)) (fun c => h (.inl c))
end Go.Proofs.Ytadnehnhgnfclaa
