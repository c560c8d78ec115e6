/-
  DERIVED. CONTRACTS of package ints: product, signed, Mul, Gcd.
-/
import Derived.Test.YtadnehnhgnfclaaDoorInt
import Derived.Test.YtadnehnhgnfclaaDoorShelf
import Derived.WalkSmall
namespace Go.Proofs.YtadnehnhgnfclaaDoor
open Go.RowKit

theorem mul64 (x y : Int) (hx : 0 ≤ x) (hx' : x < 18446744073709551616) (hy : 0 ≤ y) (hy' : y < 18446744073709551616) (w : World) :
    Calls Tryd.prog 42 #[.int .u64 x, .int .u64 y] w fun e w' => e = .returned (.tuple #[.int .u64 (x * y / 18446744073709551616), .int .u64 (x * y % 18446744073709551616)]) ∧ w = w' := by
  obtain ⟨a, rfl⟩ := Int.eq_ofNat_of_zero_le hx
  obtain ⟨b, rfl⟩ := Int.eq_ofNat_of_zero_le hy
  refine (Tryd.bits_Mul64 a b (by omega) (by omega) w).mono ?_
  rintro e w' ⟨rfl, rfl⟩
  exact ⟨by simp, rfl⟩

def hi (a b : Int) : Int := mag a * mag b / 18446744073709551616
def lo (a b : Int) : Int := mag a * mag b % 18446744073709551616

set_option maxHeartbeats 400000 in
theorem product_any (a b : Int) (w : World) (ha : -9223372036854775808 ≤ a) (ha' : a ≤ 9223372036854775807) (hb : -9223372036854775808 ≤ b) (hb' : b ≤ 9223372036854775807) :
    Calls Tryd.prog 33 #[.int .i64 a, .int .i64 b] w fun e w' => e = .returned (.agg #[.int .u64 (hi a b), .int .u64 (lo a b)]) ∧ Below w.heap.size w w' := by
  have ma : 0 ≤ mag a ∧ mag a < 18446744073709551616 := by unfold mag; omega
  have mb : 0 ≤ mag b ∧ mag b < 18446744073709551616 := by unfold mag; omega
  go_enter Tryd.func33, Tryd.ntmps33
  go_wp2_with fail
  refine (magnitude_any a _ ha ha').mono ?_
  rintro e w' ⟨rfl, rfl⟩
  go_wp2_with fail
  refine (magnitude_any b _ hb hb').mono ?_
  rintro e w' ⟨rfl, rfl⟩
  go_wp2_with fail
  refine (mul64 (mag a) (mag b) ma.1 ma.2 mb.1 mb.2 _).mono ?_
  rintro e w' ⟨rfl, rfl⟩
  go_wp2_with fail
  exact bodyPost_ret (v := .agg #[.int .u64 (hi a b), .int .u64 (lo a b)]) (by simp [results, Tryd.results33, go_sem, hi, lo]) rfl ⟨rfl, below1 _ _⟩

theorem magnitude_most (w : World) :
    Calls Tryd.prog 38 #[.int .i64 9223372036854775807] w fun e w' => e = .returned (.int .u64 9223372036854775807) ∧ w = w' := magnitude_any _ _ (by omega) (by omega)
theorem magnitude_least (w : World) :
    Calls Tryd.prog 38 #[.int .i64 (-9223372036854775808)] w fun e w' => e = .returned (.int .u64 9223372036854775808) ∧ w = w' := magnitude_any _ _ (by omega) (by omega)
theorem below1n (w : World) (o1 : Obj) (n : Nat) : Below w.heap.size w ((w.alloc o1).drewN n) := below_drewN (below1 w o1) n

set_option maxHeartbeats 400000 in
theorem signed_over1_neg (h l : Int) (c : ¬ h = 0) (w : World) :
    Calls Tryd.prog 32 #[.agg #[.int .u64 h, .int .u64 l], .bool true] w fun e w' => e = .returned (two 0 15) ∧ Below w.heap.size w w' := by
  have c1 : (h != 0) = true := by simp [c]
  go_enter Tryd.func32, Tryd.ntmps32
  go_wp2_with fail
  go_quiet (fail)
  go_wp2_with fail
  refine (magnitude_most _).mono ?_
  rintro e w' ⟨rfl, rfl⟩
  go_wp2_with fail
  refine (magnitude_least _).mono ?_
  rintro e w' ⟨rfl, rfl⟩
  go_wp2_with fail
  go_ret2
  exact ⟨rfl, below1n _ _ _⟩

set_option maxHeartbeats 400000 in
theorem signed_over2_neg (l : Int) (c : 9223372036854775808 < l) (w : World) :
    Calls Tryd.prog 32 #[.agg #[.int .u64 0, .int .u64 l], .bool true] w fun e w' => e = .returned (two 0 15) ∧ Below w.heap.size w w' := by
  go_enter Tryd.func32, Tryd.ntmps32
  go_wp2_with fail
  go_quiet (fail)
  go_wp2_with fail
  refine (magnitude_most _).mono ?_
  rintro e w' ⟨rfl, rfl⟩
  go_wp2_with fail
  refine (magnitude_least _).mono ?_
  rintro e w' ⟨rfl, rfl⟩
  go_wp2_with fail
  go_ret2
  exact ⟨rfl, below1n _ _ _⟩

set_option maxHeartbeats 400000 in
theorem signed_fits_neg (l : Int) (c0 : 0 ≤ l) (c : l ≤ 9223372036854775808) (w : World) :
    Calls Tryd.prog 32 #[.agg #[.int .u64 0, .int .u64 l], .bool true] w fun e w' => e = .returned (two (-l) 0) ∧ Below w.heap.size w w' := by
  have g := c0; have g' := c
  go_enter Tryd.func32, Tryd.ntmps32
  go_wp2_with fail
  go_quiet (fail)
  go_wp2_with fail
  refine (magnitude_most _).mono ?_
  rintro e w' ⟨rfl, rfl⟩
  go_wp2_with fail
  refine (magnitude_least _).mono ?_
  rintro e w' ⟨rfl, rfl⟩
  go_wp2_with fail
  go_ret2
  exact ⟨ret_two (show Value.int .i64 (wrap64 (IntKind.u64.wrap (-l))) = _ from congrArg _ (by simp only [IntKind.wrap_u64, wrap64]; omega)) rfl, below1n _ _ _⟩

set_option maxHeartbeats 400000 in
theorem signed_over1_pos (h l : Int) (c : ¬ h = 0) (w : World) :
    Calls Tryd.prog 32 #[.agg #[.int .u64 h, .int .u64 l], .bool false] w fun e w' => e = .returned (two 0 15) ∧ Below w.heap.size w w' := by
  have c1 : (h != 0) = true := by simp [c]
  go_enter Tryd.func32, Tryd.ntmps32
  go_wp2_with fail
  go_quiet (fail)
  go_wp2_with fail
  refine (magnitude_most _).mono ?_
  rintro e w' ⟨rfl, rfl⟩
  go_wp2_with fail
  go_ret2
  exact ⟨rfl, below1n _ _ _⟩

set_option maxHeartbeats 400000 in
theorem signed_over2_pos (l : Int) (c : 9223372036854775807 < l) (w : World) :
    Calls Tryd.prog 32 #[.agg #[.int .u64 0, .int .u64 l], .bool false] w fun e w' => e = .returned (two 0 15) ∧ Below w.heap.size w w' := by
  go_enter Tryd.func32, Tryd.ntmps32
  go_wp2_with fail
  go_quiet (fail)
  go_wp2_with fail
  refine (magnitude_most _).mono ?_
  rintro e w' ⟨rfl, rfl⟩
  go_wp2_with fail
  go_ret2
  exact ⟨rfl, below1n _ _ _⟩

set_option maxHeartbeats 400000 in
theorem signed_fits_pos (l : Int) (c0 : 0 ≤ l) (c : l ≤ 9223372036854775807) (w : World) :
    Calls Tryd.prog 32 #[.agg #[.int .u64 0, .int .u64 l], .bool false] w fun e w' => e = .returned (two l 0) ∧ Below w.heap.size w w' := by
  have g := c0
  go_enter Tryd.func32, Tryd.ntmps32
  go_wp2_with fail
  go_quiet (fail)
  go_wp2_with fail
  refine (magnitude_most _).mono ?_
  rintro e w' ⟨rfl, rfl⟩
  go_wp2_with fail
  go_ret2
  exact ⟨rfl, below1n _ _ _⟩

theorem mag_mul (a b : Int) : mag a * mag b = (a * b).natAbs := by unfold mag; rw [Int.natAbs_mul]; rfl
theorem mag_mul_neg (a b : Int) (h : differB a b = true) : a * b = -(mag a * mag b) := by
  rcases of_differB h with ⟨g, k⟩ | ⟨g, k⟩
  · rw [mag_neg g, mag_pos k, Int.neg_mul, Int.neg_neg]
  · rw [mag_neg k, mag_pos g, Int.mul_neg, Int.neg_neg]
theorem mag_mul_pos (a b : Int) (h : differB a b = false) : a * b = mag a * mag b := by
  by_cases g : a < 0
  · by_cases k : b < 0
    · rw [mag_neg g, mag_neg k, Int.neg_mul_neg]
    · rw [differB_true (by omega)] at h; cases h
  · by_cases k : b < 0
    · rw [differB_true (by omega)] at h; cases h
    · rw [mag_pos (by omega), mag_pos (by omega)]
theorem product_low (a b : Int) (w : World) (ha : -9223372036854775808 ≤ a) (ha' : a ≤ 9223372036854775807) (hb : -9223372036854775808 ≤ b) (hb' : b ≤ 9223372036854775807) (h : mag a * mag b < 18446744073709551616) :
    Calls Tryd.prog 33 #[.int .i64 a, .int .i64 b] w fun e w' => e = .returned (.agg #[.int .u64 0, .int .u64 (mag a * mag b)]) ∧ Below w.heap.size w w' := by
  have h0 : 0 ≤ mag a * mag b := Int.mul_nonneg (mag_0 a) (mag_0 b)
  have e1 : hi a b = 0 := by unfold hi; exact Int.ediv_eq_zero_of_lt h0 h
  have e2 : lo a b = mag a * mag b := by unfold lo; exact Int.emod_eq_of_lt h0 h
  have := product_any a b w ha ha' hb hb'
  rw [e1, e2] at this; exact this
theorem hi_ne (a b : Int) (h : 18446744073709551616 ≤ mag a * mag b) : ¬ hi a b = 0 := by unfold hi; omega

set_option maxHeartbeats 400000 in
theorem mul_over1 (a b : Int) (w : World) (ha : -9223372036854775808 ≤ a) (ha' : a ≤ 9223372036854775807) (hb : -9223372036854775808 ≤ b) (hb' : b ≤ 9223372036854775807) (h : 18446744073709551616 ≤ mag a * mag b) :
    Calls Tryd.prog 12 #[.int .i64 a, .int .i64 b] w fun e w' => e = .returned (two 0 15) ∧ Below w.heap.size w w' := by
  have hh := hi_ne a b h
  cases d : differB a b
  all_goals
    have D := Lib.hid d; clear d
    clear h
    go_enter Tryd.func12, Tryd.ntmps12
    go_wp2_with fail
    refine (product_any a b _ ha ha' hb hb').mono ?_
    rintro e w1 ⟨rfl, hb1⟩
    go_wp2_with fail
    refine (differ_is D.out _).mono ?_
    rintro e w' ⟨rfl, rfl⟩
    go_wp2_with fail
    first
      | (with_reducible refine (signed_over1_pos _ _ hh _).mono ?_)
      | (with_reducible refine (signed_over1_neg _ _ hh _).mono ?_)
    rintro e w2 ⟨rfl, hb2⟩
    go_wp2_with fail
    go_ret2
    exact ⟨rfl, hb1.trans (hb2.mono hb1.size)⟩
set_option maxHeartbeats 400000 in
theorem mul_low (a b r x : Int) (w : World) (ha : -9223372036854775808 ≤ a) (ha' : a ≤ 9223372036854775807) (hb : -9223372036854775808 ≤ b) (hb' : b ≤ 9223372036854775807) (h : mag a * mag b < 18446744073709551616) (n : Bool) (d : differB a b = n)
    (hs : ∀ w1 : World, Calls Tryd.prog 32 #[.agg #[.int .u64 0, .int .u64 (mag a * mag b)], .bool n] w1 fun e w' => e = .returned (two r x) ∧ Below w1.heap.size w1 w') :
    Calls Tryd.prog 12 #[.int .i64 a, .int .i64 b] w fun e w' => e = .returned (two r x) ∧ Below w.heap.size w w' := by
  have H := Lib.hid hs; clear hs
  have D := Lib.hid d; clear d
  have HH := Lib.hid h; clear h
  go_enter Tryd.func12, Tryd.ntmps12
  go_wp2_with fail
  refine (product_low a b _ ha ha' hb hb' HH.out).mono ?_
  rintro e w1 ⟨rfl, hb1⟩
  go_wp2_with fail
  refine (differ_is D.out _).mono ?_
  rintro e w' ⟨rfl, rfl⟩
  go_wp2_with fail
  refine (H.out _).mono ?_
  rintro e w2 ⟨rfl, hb2⟩
  go_wp2_with fail
  go_ret2
  exact ⟨rfl, hb1.trans (hb2.mono hb1.size)⟩
theorem mul_in (a b : Int) (w : World) (ha : -9223372036854775808 ≤ a) (ha' : a ≤ 9223372036854775807) (hb : -9223372036854775808 ≤ b) (hb' : b ≤ 9223372036854775807) (h : -9223372036854775808 ≤ a * b) (h' : a * b ≤ 9223372036854775807) :
    Calls Tryd.prog 12 #[.int .i64 a, .int .i64 b] w fun e w' => e = .returned (two (a * b) 0) ∧ Below w.heap.size w w' := by
  have hm := mag_mul a b
  have h0 : 0 ≤ mag a * mag b := Int.mul_nonneg (mag_0 a) (mag_0 b)
  cases d : differB a b
  · have e := mag_mul_pos a b d
    exact mul_low a b _ _ w ha ha' hb hb' (by omega) _ d fun w1 => by rw [e]; exact signed_fits_pos _ h0 (by omega) w1
  · have e := mag_mul_neg a b d
    exact mul_low a b _ _ w ha ha' hb hb' (by omega) _ d fun w1 => by rw [e]; exact signed_fits_neg _ h0 (by omega) w1
theorem mul_out (a b : Int) (w : World) (ha : -9223372036854775808 ≤ a) (ha' : a ≤ 9223372036854775807) (hb : -9223372036854775808 ≤ b) (hb' : b ≤ 9223372036854775807) (h : ¬ (-9223372036854775808 ≤ a * b ∧ a * b ≤ 9223372036854775807)) :
    Calls Tryd.prog 12 #[.int .i64 a, .int .i64 b] w fun e w' => e = .returned (two 0 15) ∧ Below w.heap.size w w' := by
  have hm := mag_mul a b
  have h0 : 0 ≤ mag a * mag b := Int.mul_nonneg (mag_0 a) (mag_0 b)
  by_cases g : mag a * mag b < 18446744073709551616
  · cases d : differB a b
    · have e := mag_mul_pos a b d
      exact mul_low a b _ _ w ha ha' hb hb' g _ d fun w1 => signed_over2_pos _ (by omega) w1
    · have e := mag_mul_neg a b d
      exact mul_low a b _ _ w ha ha' hb hb' g _ d fun w1 => signed_over2_neg _ (by omega) w1
  · exact mul_over1 a b w ha ha' hb hb' (by omega)

/-- the loop of Gcd, and what it leaves -/
def gcdv (a b : Int) : Int := Int.gcd a b
set_option maxHeartbeats 400000 in
theorem gcd_any (a b : Int) (w : World) (r x : Int) (ha : -9223372036854775808 ≤ a) (ha' : a ≤ 9223372036854775807) (hb : -9223372036854775808 ≤ b) (hb' : b ≤ 9223372036854775807)
    (hs : ∀ w1 : World, Calls Tryd.prog 32 #[.agg #[.int .u64 0, .int .u64 (gcdv a b)], .bool false] w1 fun e w' => e = .returned (two r x) ∧ Below w1.heap.size w1 w') :
    Calls Tryd.prog 24 #[.int .i64 a, .int .i64 b] w fun e w' => e = .returned (two r x) ∧ Below w.heap.size w w' := by
  have H := Lib.hid hs; clear hs
  have hma : mag a = ((a.natAbs : Nat) : Int) := rfl
  have hmb : mag b = ((b.natAbs : Nat) : Int) := rfl
  have hmax : a.natAbs ≤ 9223372036854775808 ∧ b.natAbs ≤ 9223372036854775808 := by omega
  have MA := Lib.hid hma; clear hma
  have MB := Lib.hid hmb; clear hmb
  go_enter Tryd.func24, Tryd.ntmps24
  go_wp2_with fail
  refine (magnitude_any a _ ha ha').mono ?_
  rintro e w' ⟨rfl, rfl⟩
  go_wp2_with fail
  refine (magnitude_any b _ hb hb').mono ?_
  rintro e w' ⟨rfl, rfl⟩
  go_wp2_with fail
  go_loopw [6, 7] (fun m n wr => ∃ i k : Nat, i ≤ 9223372036854775808 ∧ k ≤ 9223372036854775808 ∧ m = .int .u64 i ∧ n = .int .u64 k ∧ Hid (Nat.gcd i k = Int.gcd a b) ∧ Below w.heap.size w wr) (fun _ n _ => (intOf n).toNat)
  case atStart => exact ⟨a.natAbs, b.natAbs, hmax.1, hmax.2, by rw [MA.out], by rw [MB.out], Lib.hid rfl, Below.refl _ _⟩
  case round =>
    obtain ⟨i, k, hi, hk, rfl, rfl, hg, hbl⟩ := hrel
    by_cases hz : k = 0
    · subst hz
      have hg0 : gcdv a b = (i : Int) := by unfold gcdv; rw [← hg.out, Nat.gcd_zero_right]
      have G0 := Lib.hid hg0; clear hg0
      go_wp2_with fail
      have H2 := H.out wr
      rw [G0.out] at H2
      refine H2.mono ?_
      clear H2
      rintro e w2 ⟨rfl, hb2⟩
      go_wp2_with fail
      go_ret2
      exact ⟨rfl, hbl.trans (hb2.mono hbl.size)⟩
    · have hz1 : ((k : Int) != 0) = true := by simp; omega
      have hz2 : ¬ (k : Int) = 0 := by omega
      have hlt := Nat.mod_lt i (show 0 < k by omega)
      go_wp2_with fail
      go_quiet (fail)
      go_wp2_with fail
      go_roundw
      case rel => exact ⟨k, i % k, hk, by omega, rfl, by go_num, Lib.hid (by rw [Nat.gcd_comm, ← Nat.gcd_rec, Nat.gcd_comm]; exact hg.out), below_drewN hbl _⟩
      case measure => simp [intOf]; omega
end Go.Proofs.YtadnehnhgnfclaaDoor
