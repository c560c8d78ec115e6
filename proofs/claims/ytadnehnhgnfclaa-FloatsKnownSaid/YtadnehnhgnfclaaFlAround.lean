/-
  DERIVED. CONTRACTS of floats.around, Down, Up, Exact.
-/
import Derived.Test.YtadnehnhgnfclaaFlNear
namespace Go.Proofs.Ytadnehnhgnfclaa
open Go.RowKit

/-- the float64 numbers beside a whole number: g is the rung at most its size -/
def loOf (n : Int) (g : Nat) : Nat := if V g = n.natAbs * U then dw (decide (n < 0)) g else if n < 0 then dw true (g + 1) else dw false g
def hiOf (n : Int) (g : Nat) : Nat := if V g = n.natAbs * U then dw (decide (n < 0)) g else if n < 0 then dw true g else dw false (g + 1)
theorem rank_dw_pos {g : Nat} (h : g ≤ 9218868437227405312) : rankI (dw false g) = g := by
  unfold rankI isNan; rw [dw_rung (by omega), dw_neg (by omega), if_neg (by simp; omega)]; rfl
theorem rank_dw_neg {g : Nat} (h : g ≤ 9218868437227405312) : rankI (dw true g) = -1 - (g : Int) := by
  unfold rankI isNan; rw [dw_rung (by omega), dw_neg (by omega), if_neg (by simp; omega)]; rfl
theorem nan_dw' {s : Bool} {g : Nat} (h : g ≤ 9218868437227405312) : isNan (dw s g) = false := by
  unfold isNan; rw [dw_rung (by omega)]; simp; omega
theorem dw_lt {s : Bool} {g : Nat} (h : g ≤ 9218868437227405312) : dw s g < 18446744073709551616 := by unfold dw; split <;> omega
theorem num_pos (g : Nat) : numB (g : Int) = dw false g := by unfold numB dw; rw [if_neg (by omega)]; simp
theorem num_neg (g : Nat) : numB (-1 - (g : Int)) = dw true g := by unfold numB dw; rw [if_pos (by omega)]; simp; omega
theorem sV_pos {g : Nat} (h : g ≤ 9218868437227405312) : sV (dw false g) = V g := by unfold sV; rw [dw_neg (by omega), dw_rung (by omega)]; rfl
theorem sV_neg {g : Nat} (h : g ≤ 9218868437227405312) : sV (dw true g) = -(V g : Int) := by unfold sV; rw [dw_neg (by omega), dw_rung (by omega)]; rfl
/-- neighbours -/
structure Pair (lo hi : Nat) (n : Int) : Prop where
  up : stepB lo 9218868437227405312 1 = (hi, 0)
  down : stepB hi (-9218868437227405313) (-1) = (lo, 0)
  lo64 : lo < 18446744073709551616
  hi64 : hi < 18446744073709551616
  nlo : isNan lo = false
  nhi : isNan hi = false
  less : sV lo < n * U
  more : n * U < sV hi
theorem pair_of {n : Int} {g : Nat} (h : At g n.natAbs) (hx : ¬ V g = n.natAbs * U) : Pair (loOf n g) (hiOf n g) n := by
  obtain ⟨a1, a2, a3⟩ := h
  unfold loOf hiOf
  rw [if_neg hx, if_neg hx]
  by_cases hn : n < 0
  · rw [if_pos hn, if_pos hn]
    have e : n = -(n.natAbs : Int) := by omega
    have e2 : n * U = -((n.natAbs * U : Nat) : Int) := by rw [Int.natCast_mul, ← Int.neg_mul, ← e]
    refine ⟨?_, ?_, dw_lt (by omega), dw_lt (by omega), nan_dw' (by omega), nan_dw' (by omega), ?_, ?_⟩
    · unfold stepB; rw [rank_dw_neg (by omega), if_neg (by omega), show (-1 - ((g + 1 : Nat) : Int) + 1) = -1 - (g : Int) by omega, num_neg]
    · unfold stepB; rw [rank_dw_neg (by omega), if_neg (by omega), show (-1 - (g : Int) + -1) = -1 - ((g + 1 : Nat) : Int) by omega, num_neg]
    · rw [e2, sV_neg (by omega)]; omega
    · rw [e2, sV_neg (by omega)]; omega
  · rw [if_neg hn, if_neg hn]
    have e : n = (n.natAbs : Int) := by omega
    have e2 : n * U = ((n.natAbs * U : Nat) : Int) := by rw [Int.natCast_mul, ← e]
    refine ⟨?_, ?_, dw_lt (by omega), dw_lt (by omega), nan_dw' (by omega), nan_dw' (by omega), ?_, ?_⟩
    · unfold stepB; rw [rank_dw_pos (by omega), if_neg (by omega), show ((g : Int) + 1) = ((g + 1 : Nat) : Int) by omega, num_pos]
    · unfold stepB; rw [rank_dw_pos (by omega), if_neg (by omega), show (((g + 1 : Nat) : Int) + -1) = (g : Int) by omega, num_pos]
    · rw [e2, sV_pos (by omega)]; omega
    · rw [e2, sV_pos (by omega)]; omega
theorem around_same {n : Int} {x : Nat} (w : World) (n1 : -9223372036854775808 ≤ n) (n2 : n ≤ 9223372036854775807) (hx : floatOfInt .f64 n = x) (h64 : x < 18446744073709551616) (hn : isNan x = false) (he : sV x = n * U) :
    Calls Try.prog 36 #[.int .i64 n] w fun e w' => e = .returned (.tuple #[.float .f64 x, .float .f64 x]) ∧ w = w' := by
  have HC := Lib.hid (fun w => fCmp_is (c := 0) w h64 hn n1 n2 (by rw [he]; unfold cmpZ; simp))
  clear n1 n2 h64 hn he
  have HX := Lib.hid hx; clear hx
  go_enter Try.func36, Try.ntmps36
  go_wp2_with fail
  rw [HX.out]
  refine (HC.out _).mono ?_
  rintro e w' ⟨rfl, rfl⟩
  go_wp2
  go_ret2
  exact ⟨rfl, rfl⟩
theorem around_low {n : Int} {x y : Nat} (w : World) (n1 : -9223372036854775808 ≤ n) (n2 : n ≤ 9223372036854775807) (hx : floatOfInt .f64 n = x) (P : Pair x y n) :
    Calls Try.prog 36 #[.int .i64 n] w fun e w' => e = .returned (.tuple #[.float .f64 x, .float .f64 y]) ∧ w = w' := by
  have HC := Lib.hid (fun w => fCmp_is (c := -1) w P.lo64 P.nlo n1 n2 (by unfold cmpZ; rw [if_pos P.less]))
  have HN := Lib.hid (fun w => next_is w P.lo64 P.up)
  clear n1 n2 P
  have HX := Lib.hid hx; clear hx
  go_enter Try.func36, Try.ntmps36
  go_wp2_with fail
  rw [HX.out]
  refine (HC.out _).mono ?_
  rintro e w' ⟨rfl, rfl⟩
  go_wp2_with fail
  refine (HN.out _).mono ?_
  rintro e w' ⟨rfl, rfl⟩
  go_wp2
  go_ret2
  exact ⟨rfl, rfl⟩
theorem around_high {n : Int} {x y : Nat} (w : World) (n1 : -9223372036854775808 ≤ n) (n2 : n ≤ 9223372036854775807) (hx : floatOfInt .f64 n = y) (P : Pair x y n) :
    Calls Try.prog 36 #[.int .i64 n] w fun e w' => e = .returned (.tuple #[.float .f64 x, .float .f64 y]) ∧ w = w' := by
  have HC := Lib.hid (fun w => fCmp_is (c := 1) w P.hi64 P.nhi n1 n2 (by unfold cmpZ; have := P.more; rw [if_neg (by omega), if_pos this]))
  have HN := Lib.hid (fun w => next_is w P.lo64 P.up)
  have HP := Lib.hid (fun w => prev_is w P.hi64 P.down)
  clear n1 n2 P
  have HX := Lib.hid hx; clear hx
  go_enter Try.func36, Try.ntmps36
  go_wp2_with fail
  rw [HX.out]
  refine (HC.out _).mono ?_
  rintro e w' ⟨rfl, rfl⟩
  go_wp2_with fail
  refine (HP.out _).mono ?_
  rintro e w' ⟨rfl, rfl⟩
  go_wp2_with fail
  refine (HN.out _).mono ?_
  rintro e w' ⟨rfl, rfl⟩
  go_wp2
  go_ret2
  exact ⟨rfl, rfl⟩
theorem at_exists {n : Int} (n1 : -9223372036854775808 ≤ n) (n2 : n ≤ 9223372036854775807) : ∃ g, At g n.natAbs := by
  obtain ⟨g, _, h, _⟩ := ofInt_near n (by omega)
  exact ⟨g, h⟩
theorem around_is {n : Int} {g x y : Nat} (w : World) (n1 : -9223372036854775808 ≤ n) (n2 : n ≤ 9223372036854775807) (h : At g n.natAbs) (hx : loOf n g = x) (hy : hiOf n g = y) :
    Calls Try.prog 36 #[.int .i64 n] w fun e w' => e = .returned (.tuple #[.float .f64 x, .float .f64 y]) ∧ w = w' := by
  obtain ⟨g', e, h1, h2, h3, h4⟩ := ofInt_near n (by omega)
  have := at_uniq h1 h
  subst this
  have h4' : floatOfInt .f64 n = dw (decide (n < 0)) (g' + e) := h4
  by_cases he : V g' = n.natAbs * U
  · have : e = 0 := h3 he
    subst this
    have e1 : loOf n g' = dw (decide (n < 0)) g' := by unfold loOf; rw [if_pos he]
    have e2 : hiOf n g' = dw (decide (n < 0)) g' := by unfold hiOf; rw [if_pos he]
    rw [← hx, ← hy, e1, e2]
    refine around_same w n1 n2 h4' (dw_lt (by have := h1.2.2; omega)) (nan_dw h1.2.2) ?_
    rw [sV_dw h1.2.2 he]
    unfold sg
    by_cases hf0 : n < 0
    · simp only [hf0, decide_true, if_true]; congr 1; omega
    · simp only [hf0, decide_false, Bool.false_eq_true, if_false]; congr 1; omega
  · have P := pair_of h he
    rw [hx, hy] at P
    unfold loOf at hx
    unfold hiOf at hy
    rw [if_neg he] at hx hy
    by_cases hn : n < 0
    · rw [if_pos hn] at hx hy
      rw [decide_eq_true hn] at h4'
      rcases (by omega : e = 0 ∨ e = 1) with rfl | rfl
      · exact around_high w n1 n2 (by rw [h4', ← hy]; rfl) P
      · exact around_low w n1 n2 (by rw [h4', ← hx]) P
    · rw [if_neg hn] at hx hy
      rw [decide_eq_false hn] at h4'
      rcases (by omega : e = 0 ∨ e = 1) with rfl | rfl
      · exact around_low w n1 n2 (by rw [h4', ← hx]; rfl) P
      · exact around_high w n1 n2 (by rw [h4', ← hy]) P
theorem down_is {n : Int} {g x : Nat} (w : World) (n1 : -9223372036854775808 ≤ n) (n2 : n ≤ 9223372036854775807) (h : At g n.natAbs) (hx : loOf n g = x) :
    Calls Try.prog 17 #[.int .i64 n] w fun e w' => e = .returned (.float .f64 x) ∧ w = w' := by
  have H := Lib.hid (fun w => around_is w n1 n2 h hx rfl); clear n1 n2 h hx
  go_enter Try.func17, Try.ntmps17
  go_wp2_with fail
  refine (H.out _).mono ?_
  rintro e w' ⟨rfl, rfl⟩
  go_wp2
  go_ret
  exact ⟨rfl, rfl⟩
theorem up_is {n : Int} {g y : Nat} (w : World) (n1 : -9223372036854775808 ≤ n) (n2 : n ≤ 9223372036854775807) (h : At g n.natAbs) (hy : hiOf n g = y) :
    Calls Try.prog 18 #[.int .i64 n] w fun e w' => e = .returned (.float .f64 y) ∧ w = w' := by
  have H := Lib.hid (fun w => around_is w n1 n2 h rfl hy); clear n1 n2 h hy
  go_enter Try.func18, Try.ntmps18
  go_wp2_with fail
  refine (H.out _).mono ?_
  rintro e w' ⟨rfl, rfl⟩
  go_wp2
  go_ret
  exact ⟨rfl, rfl⟩
theorem lohi_eq {n : Int} {g : Nat} (h : At g n.natAbs) : (FloatKind.f64.format.order (loOf n g) (hiOf n g) == some Ordering.eq) = decide (V g = n.natAbs * U) := by
  rw [ord_eq]
  by_cases he : V g = n.natAbs * U
  · unfold loOf hiOf
    rw [if_pos he, if_pos he, fEq_self, nan_dw h.2.2, decide_eq_true he]; rfl
  · have P := pair_of h he
    unfold fEq
    rw [P.nlo, P.nhi, decide_eq_false he]
    have h1 := P.less; have h2 := P.more
    have h3 : ¬ key (loOf n g) = key (hiOf n g) := fun c => by have := (sV_eq _ _).2 c; omega
    simp [h3]
theorem exact_is {n : Int} {g : Nat} {b : Bool} (w : World) (n1 : -9223372036854775808 ≤ n) (n2 : n ≤ 9223372036854775807) (h : At g n.natAbs) (hb : decide (V g = n.natAbs * U) = b) :
    Calls Try.prog 21 #[.int .i64 n] w fun e w' => e = .returned (.bool b) ∧ w = w' := by
  have he := lohi_eq h
  rw [hb] at he
  generalize hx : loOf n g = x at *
  generalize hy : hiOf n g = y at *
  have H := Lib.hid (fun w => around_is w n1 n2 h hx hy); clear n1 n2 h hx hy hb
  have HE := Lib.hid he; clear he
  go_enter Try.func21, Try.ntmps21
  go_wp2_with fail
  refine (H.out _).mono ?_
  rintro e w' ⟨rfl, rfl⟩
  go_wp2
  go_ret
  exact ⟨ret_bool HE.out, rfl⟩
end Go.Proofs.Ytadnehnhgnfclaa
