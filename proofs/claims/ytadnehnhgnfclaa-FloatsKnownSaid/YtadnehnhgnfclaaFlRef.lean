/-
  DERIVED. CONTRACTS of the reference of layer 2: size, near, Down, Up.
-/
import Derived.Test.YtadnehnhgnfclaaFlAround
namespace Go.Proofs.Ytadnehnhgnfclaa
open Go.RowKit

theorem xor_top {r : Nat} (h : r < 9223372036854775808) : r ^^^ 9223372036854775808 = 9223372036854775808 + r := by
  have e : (9223372036854775808 : Nat) = 2 ^ 63 := by decide
  rw [← nat_join 63 9223372036854775808 r (by decide) (by omega), e]
  apply Nat.eq_of_testBit_eq
  intro j
  rw [Nat.testBit_xor, Nat.testBit_or, Nat.testBit_two_pow]
  by_cases hj : 63 = j
  · subst hj
    rw [Nat.testBit_lt_two_pow (by omega)]; rfl
  · rw [decide_eq_false hj]; simp
theorem neg_dw {s : Bool} {r : Nat} (h : r < 9223372036854775808) : Op.negFloat .f64 (dw s r) = dw (!s) r := by
  show dw s r ^^^ 2 ^ 63 = dw (!s) r
  have e : (2 : Nat) ^ 63 = 9223372036854775808 := by decide
  rw [e]
  unfold dw
  cases s
  · simp only [Bool.false_eq_true, if_false, Bool.not_false, if_true, Nat.zero_add]; exact xor_top h
  · simp only [Bool.false_eq_true, if_false, Bool.not_true, if_true, Nat.zero_add]
    rw [← xor_top h, Nat.xor_assoc, Nat.xor_self, Nat.xor_zero]
theorem V_rep' (t c : Nat) (h : c ≤ 9007199254740992) : ∃ g, V g = c * 2 ^ t := by
  by_cases e : c = 9007199254740992
  · obtain ⟨g, hg⟩ := V_rep (t + 1) 4503599627370496 (by decide)
    exact ⟨g, by rw [hg, e, Nat.pow_succ]; generalize 2 ^ t = z; omega⟩
  · exact V_rep t c (by omega)
/-- doubling -/
theorem dbl {r r' : Nat} (h : V r' = 2 * V r) (hr : r ≤ 4895412794951729152) : FloatKind.f64.format.add (dw false r) (dw false r) = some (dw false r') := by
  show Ieee.double.add _ _ = _
  unfold Ieee.Format.add
  have hl : Ieee.double.leastPlace = -1074 := by decide
  rw [read_num (nan_dw' (by omega)) (by rw [dw_rung (by omega)]; omega), dw_rung (by omega), dw_neg (by omega), hl]
  have hs : Ieee.Datum.sum (.number false (mg r) ((-1074 : Int) + (pl r : Nat))) (.number false (mg r) ((-1074 : Int) + (pl r : Nat))) = some (.number false (2 * mg r) (-1074 + (pl r : Nat))) := by
    unfold Ieee.Datum.sum
    dsimp only
    have e1 : ((-1074 + (pl r : Nat) : Int) - min ((-1074 : Int) + (pl r : Nat)) ((-1074 : Int) + (pl r : Nat))).toNat = 0 := by omega
    have e2 : min (-1074 + (pl r : Nat) : Int) (-1074 + (pl r : Nat)) = -1074 + (pl r : Nat) := by omega
    rw [e1, e2]
    have e3 : Ieee.signed false (mg r) 0 = mg r := by unfold Ieee.signed; simp
    rw [e3]
    have e4 : ((mg r : Int) + (mg r : Int)).natAbs = 2 * mg r := by omega
    have e5 : (if (mg r : Int) + (mg r : Int) = 0 then (false && false) else decide ((mg r : Int) + (mg r : Int) < 0)) = false := by
      split
      · rfl
      · exact decide_eq_false (by omega)
    rw [e4]
    exact congrArg (fun b => some (Ieee.Datum.number b (2 * mg r) (-1074 + (pl r : Nat)))) e5
  rw [hs]
  show some (Ieee.double.nearest false (2 * mg r) (-1074 + (pl r : Nat))) = _
  congr 1
  by_cases h0 : mg r = 0
  · have : V r = 0 := by unfold V; rw [h0, Nat.zero_mul]
    rw [this] at h
    have : r' = 0 := V_eq (by rw [h, V_zero])
    subst this
    rw [h0]
    unfold Ieee.Format.nearest
    rw [if_pos rfl, word_dw]
  · have hp : pl r ≤ 1086 := by unfold pl; omega
    have hm2 := mg_lt r
    have h54 : (2 : Nat) ^ 54 = 18014398509481984 := by decide
    have hlog : (2 * mg r).log2 < 54 := (Nat.log2_lt (by omega)).2 (by omega)
    exact (nearest_exact false (2 * mg r) (pl r) r' (by omega) (by omega) (by rw [h]; unfold V; rw [Nat.mul_assoc])).1
theorem V64 : V 4895412794951729152 = 18446744073709551616 * U := by decide +kernel
/-- what near gives -/
def nearG (up : Bool) (g m : Nat) : Nat := if up && !decide (V g = m * U) then g + 1 else g
theorem near_math {g m j : Nat} (up : Bool) (h : At g m) (hm : m < 18446744073709551616) (h1 : 0 < j → 4503599627370496 ≤ m / 2 ^ j) (h2 : m / 2 ^ j < 9007199254740992) :
    V (nearG up g m) = (m / 2 ^ j + (decide (m % 2 ^ j ≠ 0) && up).toNat) * 2 ^ j * U := by
  by_cases hj : j = 0
  · subst hj
    have e1 : m / 2 ^ 0 = m := by simp
    have e2 : m % 2 ^ 0 = 0 := by simp [Nat.mod_one]
    rw [e1] at h2
    obtain ⟨g', hg'⟩ := V_rep ex m h2
    have hg2 : V g' = m * U := hg'
    have hi : g' < 9218868437227405312 := by
      have : V g' < V 9218868437227405312 := by
        rw [hg2, V_top]
        have := top_big
        exact Nat.mul_lt_mul_of_pos_right (by omega) U_pos
      exact V_lt.1 this
    have := at_uniq h ⟨Nat.le_of_eq hg2, by have := @V_lt g' (g' + 1); rw [hg2] at this; omega, hi⟩
    subst this
    unfold nearG
    rw [e1, e2, hg2]
    simp
    exact hg2
  · have hV := V_parts (j + ex) (m / 2 ^ j) h2 (.inr (h1 (by omega)))
    have hV1 := V_parts1 (j + ex) (m / 2 ^ j) h2 (.inr (h1 (by omega)))
    have eU : ∀ c, c * 2 ^ (j + ex) = c * 2 ^ j * U := fun c => by rw [Nat.pow_add, ← Nat.mul_assoc]; rfl
    rw [eU] at hV hV1
    have hdm := Nat.div_add_mod m (2 ^ j)
    have hml := Nat.mod_lt m (Nat.two_pow_pos j)
    have hle : m / 2 ^ j * 2 ^ j ≤ m := by rw [Nat.mul_comm]; omega
    have hlt : m < (m / 2 ^ j + 1) * 2 ^ j := by rw [Nat.add_mul, Nat.mul_comm]; omega
    have hi : (j + ex) * 4503599627370496 + m / 2 ^ j < 9218868437227405312 := by
      have : V ((j + ex) * 4503599627370496 + m / 2 ^ j) < V 9218868437227405312 := by
        rw [hV, V_top]
        have := top_big
        have : (18446744073709551616 : Nat) ≤ 2 ^ top := by
          have h : (2 : Nat) ^ 64 ≤ 2 ^ top := Nat.pow_le_pow_right (by decide) (by decide)
          have h2 : (2 : Nat) ^ 64 = 18446744073709551616 := by decide
          omega
        exact Nat.mul_lt_mul_of_pos_right (by omega) U_pos
      exact V_lt.1 this
    have := at_uniq h ⟨by rw [hV]; exact Nat.mul_le_mul_right _ hle, by rw [hV1]; exact Nat.mul_lt_mul_of_pos_right hlt U_pos, hi⟩
    subst this
    unfold nearG
    have heq : V ((j + ex) * 4503599627370496 + m / 2 ^ j) = m * U ↔ m % 2 ^ j = 0 := by
      rw [hV]
      constructor
      · intro c
        have := Nat.eq_of_mul_eq_mul_right U_pos c
        rw [Nat.mul_comm] at this
        omega
      · intro c
        congr 1
        rw [Nat.mul_comm]; omega
    by_cases c : m % 2 ^ j = 0
    · rw [if_neg (by simp [heq, c]), hV]; simp [c]
    · cases up
      · simp [hV]
      · rw [if_pos (by simp [heq, c]), hV1]; simp [c]
theorem size_is {n : Int} {m : Nat} (w : World) (n1 : -9223372036854775808 ≤ n) (n2 : n ≤ 9223372036854775807) (hm : n.natAbs = m) :
    Calls Try.prog 38 #[.int .i64 n] w fun e w' => e = .returned (.int .u64 m) ∧ w = w' := by
  have HM := Lib.hid hm; clear hm
  by_cases h : n < 0
  · go_enter Try.func38, Try.ntmps38
    go_wp2
    go_ret
    exact ⟨ret_int (by rw [← HM.out]; omega), rfl⟩
  · go_enter Try.func38, Try.ntmps38
    go_wp2
    go_ret
    exact ⟨ret_int (by rw [← HM.out]; omega), rfl⟩
end Go.Proofs.Ytadnehnhgnfclaa
