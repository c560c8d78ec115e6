/-
  DERIVED. float64 AS BITS: what Ieee's order says of two words, by their rungs.
-/
import Ieee.Arith
import GoSem.Core.Float
import Derived.Laws.BitsAllLaws
import Derived.Laws.Wrap64
namespace Go.Proofs.Ytadnehnhgnfclaa
open Ieee

/-- the magnitude's rung -/
def rung (b : Nat) : Nat := b % 9223372036854775808
def isNeg (b : Nat) : Bool := b / 9223372036854775808 % 2 == 1
def isNan (b : Nat) : Bool := decide (9218868437227405312 < rung b)
/-- a number's place among the others, both zeros alike -/
def key (b : Nat) : Int := if isNeg b then -(rung b : Int) else rung b
/-- the magnitude in units of the least one -/
def mg (r : Nat) : Nat := if r < 4503599627370496 then r else 4503599627370496 + r % 4503599627370496
def pl (r : Nat) : Nat := r / 4503599627370496 - 1
def V (r : Nat) : Nat := mg r * 2 ^ pl r
def sV (b : Nat) : Int := if isNeg b then -(V (rung b) : Int) else V (rung b)

theorem pl_low {r : Nat} (h : r < 4503599627370496) : pl r = 0 := by unfold pl; omega
theorem V_low {r : Nat} (h : r < 4503599627370496) : V r = r := by unfold V; rw [pl_low h]; unfold mg; rw [if_pos h]; simp
theorem V_high {r : Nat} (h : 4503599627370496 ≤ r) : V r = (4503599627370496 + r % 4503599627370496) * 2 ^ (r / 4503599627370496 - 1) := by
  unfold V mg pl; rw [if_neg (by omega)]
theorem V_mono {r s : Nat} (h : r < s) : V r < V s := by
  by_cases hr : r < 4503599627370496
  · by_cases hs : s < 4503599627370496
    · rw [V_low hr, V_low hs]; exact h
    · rw [V_low hr, V_high (by omega)]
      have h1 : 1 ≤ 2 ^ (s / 4503599627370496 - 1) := Nat.one_le_two_pow
      have h2 := Nat.mul_le_mul_left (4503599627370496 + s % 4503599627370496) h1
      omega
  · have hs : 4503599627370496 ≤ s := by omega
    rw [V_high (by omega), V_high hs]
    by_cases hq : r / 4503599627370496 = s / 4503599627370496
    · rw [hq]
      exact Nat.mul_lt_mul_of_pos_right (by omega) (Nat.two_pow_pos _)
    · have e : s / 4503599627370496 - 1 = (r / 4503599627370496 - 1) + 1 + (s / 4503599627370496 - r / 4503599627370496 - 1) := by omega
      rw [e, Nat.pow_add, Nat.pow_succ]
      have hx : 0 < 2 ^ (r / 4503599627370496 - 1) := Nat.two_pow_pos _
      have hy : 1 ≤ 2 ^ (s / 4503599627370496 - r / 4503599627370496 - 1) := Nat.one_le_two_pow
      generalize 2 ^ (r / 4503599627370496 - 1) = x at *
      generalize 2 ^ (s / 4503599627370496 - r / 4503599627370496 - 1) = y at *
      have h1 : (4503599627370496 + r % 4503599627370496) * x < 9007199254740992 * x := Nat.mul_lt_mul_of_pos_right (by omega) hx
      have h2 : 9007199254740992 * x ≤ (4503599627370496 + s % 4503599627370496) * (x * 2) := by
        have := Nat.mul_le_mul_right (x * 2) (show 4503599627370496 ≤ 4503599627370496 + s % 4503599627370496 by omega)
        omega
      have h3 : (4503599627370496 + s % 4503599627370496) * (x * 2) * 1 ≤ (4503599627370496 + s % 4503599627370496) * (x * 2) * y := Nat.mul_le_mul_left _ hy
      rw [← Nat.mul_assoc]
      omega
theorem V_lt {r s : Nat} : V r < V s ↔ r < s :=
  ⟨fun h => Nat.lt_of_not_le fun c => by
    rcases Nat.lt_or_eq_of_le c with c | c
    · have := V_mono c; omega
    · rw [c] at h; omega, V_mono⟩
theorem V_eq {r s : Nat} (h : V r = V s) : r = s := by
  rcases Nat.lt_trichotomy r s with c | c | c
  · have := V_mono c; omega
  · exact c
  · have := V_mono c; omega
theorem V_zero : V 0 = 0 := by rw [V_low (by decide)]
theorem V_le {r s : Nat} : V r ≤ V s ↔ r ≤ s := by
  have := @V_lt s r; omega

/-- a word that is a number, read -/
theorem read_num {b : Nat} (h : isNan b = false) (hi : rung b ≠ 9218868437227405312) :
    double.read b = .number (isNeg b) (mg (rung b)) (double.leastPlace + (pl (rung b) : Nat)) := by
  have hs : double.signWeight = 9223372036854775808 := by decide
  have hb : double.binade = 4503599627370496 := by decide
  have hf : double.infRung = 9218868437227405312 := by decide
  unfold Format.read
  simp only [hs, hb, hf]
  show (if rung b < 4503599627370496 then _ else _) = _
  by_cases h1 : rung b < 4503599627370496
  · rw [if_pos h1, pl_low h1]; unfold mg; rw [if_pos h1]; simp [isNeg, rung]
  · have h2 : rung b < 9218868437227405312 := by unfold isNan at h; have := of_decide_eq_false h; omega
    rw [if_neg h1]
    show (if rung b < 9218868437227405312 then _ else _) = _
    rw [if_pos h2]; unfold mg pl; rw [if_neg h1]; simp [isNeg, rung]
theorem read_inf {b : Nat} (hi : rung b = 9218868437227405312) : double.read b = .infinity (isNeg b) := by
  have hs : double.signWeight = 9223372036854775808 := by decide
  have hb : double.binade = 4503599627370496 := by decide
  have hf : double.infRung = 9218868437227405312 := by decide
  unfold Format.read
  simp only [hs, hb, hf]
  have hi' : b % 9223372036854775808 = 9218868437227405312 := hi
  rw [hi']
  simp [isNeg]
theorem read_nan {b : Nat} (h : isNan b = true) : double.read b = .nan (isNeg b) (rung b - 9218868437227405312) := by
  have hs : double.signWeight = 9223372036854775808 := by decide
  have hb : double.binade = 4503599627370496 := by decide
  have hf : double.infRung = 9218868437227405312 := by decide
  have h1 : 9218868437227405312 < b % 9223372036854775808 := of_decide_eq_true h
  unfold Format.read
  simp only [hs, hb, hf]
  rw [if_neg (by omega), if_neg (by omega), if_neg (by omega)]
  rfl

theorem signed_scale (s : Bool) (m p k : Nat) (h : k ≤ p) : signed s m (p - k) * (2 : Int) ^ k = signed s m p := by
  have e : m <<< p = (m <<< (p - k)) * 2 ^ k := by
    rw [Nat.shiftLeft_eq, Nat.shiftLeft_eq, Nat.mul_assoc, ← Nat.pow_add]; congr 2; omega
  unfold signed
  rw [e]
  have e2 : ((2 ^ k : Nat) : Int) = (2 : Int) ^ k := by simp
  split <;> rw [Int.natCast_mul, e2] <;> simp [Int.neg_mul]
theorem compare_scale (x y : Int) (k : Nat) : compare (x * (2 : Int) ^ k) (y * (2 : Int) ^ k) = compare x y := by
  have hk : (0 : Int) < 2 ^ k := Int.pow_pos (by decide)
  generalize (2 : Int) ^ k = z at *
  show compareOfLessAndEq _ _ = compareOfLessAndEq _ _
  unfold compareOfLessAndEq
  have h1 : x * z < y * z ↔ x < y := ⟨fun h => Int.lt_of_mul_lt_mul_right h (by omega), fun h => Int.mul_lt_mul_of_pos_right h hk⟩
  have h2 : x * z = y * z ↔ x = y := ⟨fun h => Int.eq_of_mul_eq_mul_right (by omega) h, fun h => by rw [h]⟩
  simp only [h1, h2]
theorem cmp_signed (s t : Bool) (m n p q : Nat) (L : Int) :
    compare (signed s m ((L + (p : Nat)) - min (L + (p : Nat)) (L + (q : Nat))).toNat) (signed t n ((L + (q : Nat)) - min (L + (p : Nat)) (L + (q : Nat))).toNat) = compare (signed s m p) (signed t n q) := by
  have e1 : ((L + (p : Nat)) - min (L + (p : Nat)) (L + (q : Nat))).toNat = p - min p q := by omega
  have e2 : ((L + (q : Nat)) - min (L + (p : Nat)) (L + (q : Nat))).toNat = q - min p q := by omega
  rw [e1, e2, ← compare_scale _ _ (min p q), signed_scale s m p _ (Nat.min_le_left _ _), signed_scale t n q _ (Nat.min_le_right _ _)]
theorem signed_V (b : Nat) : signed (isNeg b) (mg (rung b)) (pl (rung b)) = sV b := by
  unfold signed sV V; rw [Nat.shiftLeft_eq]
theorem sV_lt (a b : Nat) : sV a < sV b ↔ key a < key b := by
  have h1 := @V_lt (rung a) (rung b); have h2 := @V_lt (rung b) (rung a)
  have h3 := @V_lt 0 (rung a); have h4 := @V_lt 0 (rung b); have h5 := @V_lt (rung a) 0; have h6 := @V_lt (rung b) 0
  rw [V_zero] at h3 h4 h5 h6
  unfold sV key
  split <;> split <;> omega
theorem sV_eq (a b : Nat) : sV a = sV b ↔ key a = key b := by
  have h1 := sV_lt a b; have h2 := sV_lt b a; omega
theorem compare_sV (a b : Nat) : compare (sV a) (sV b) = compare (key a) (key b) := by
  show compareOfLessAndEq _ _ = compareOfLessAndEq _ _
  unfold compareOfLessAndEq
  simp only [sV_lt, sV_eq]

theorem order_nan {a b : Nat} (h : isNan a = true ∨ isNan b = true) : double.order a b = none := by
  unfold Format.order
  rcases h with h | h
  · rw [read_nan h]; rfl
  · rw [read_nan h]; cases double.read a <;> rfl
theorem rung_inf {b : Nat} (h : isNan b = false) : rung b ≤ 9218868437227405312 := by unfold isNan at h; have := of_decide_eq_false h; omega
theorem order_key {a b : Nat} (ha : isNan a = false) (hb : isNan b = false) : double.order a b = some (compare (key a) (key b)) := by
  have la := rung_inf ha; have lb := rung_inf hb
  unfold Format.order
  by_cases ia : rung a = 9218868437227405312
  · rw [read_inf ia]
    by_cases ib : rung b = 9218868437227405312
    · rw [read_inf ib]
      show some (compare _ _) = _
      unfold key; rw [ia, ib]
      cases isNeg a <;> cases isNeg b <;> decide
    · rw [read_num hb ib]
      show some (if isNeg a = true then _ else _) = _
      have hk : key a = if isNeg a then -9218868437227405312 else 9218868437227405312 := by unfold key; rw [ia]; rfl
      have hk2 : -9218868437227405312 < key b ∧ key b < 9218868437227405312 := by unfold key; split <;> omega
      rw [hk]
      congr 1
      show _ = compareOfLessAndEq _ _
      unfold compareOfLessAndEq
      split
      · rw [if_pos (by omega)]
      · rw [if_neg (by omega), if_neg (by omega)]
  · by_cases ib : rung b = 9218868437227405312
    · rw [read_inf ib, read_num ha ia]
      show some (if isNeg b = true then _ else _) = _
      have hk : key b = if isNeg b then -9218868437227405312 else 9218868437227405312 := by unfold key; rw [ib]; rfl
      have hk2 : -9218868437227405312 < key a ∧ key a < 9218868437227405312 := by unfold key; split <;> omega
      rw [hk]
      congr 1
      show _ = compareOfLessAndEq _ _
      unfold compareOfLessAndEq
      split
      · rw [if_neg (by omega), if_neg (by omega)]
      · rw [if_pos (by omega)]
    · rw [read_num ha ia, read_num hb ib]
      show some (compare _ _) = _
      rw [cmp_signed, signed_V, signed_V, compare_sV]

/-- what the walk asks of two floats -/
def fLt (a b : Nat) : Bool := !isNan a && !isNan b && decide (key a < key b)
def fEq (a b : Nat) : Bool := !isNan a && !isNan b && decide (key a = key b)
theorem ord_lt (a b : Nat) : (FloatKind.f64.format.order a b == some Ordering.lt) = fLt a b := by
  show (double.order a b == some Ordering.lt) = fLt a b
  unfold fLt
  cases ha : isNan a
  · cases hb : isNan b
    · rw [order_key ha hb]
      show (some (compareOfLessAndEq _ _) == _) = _
      unfold compareOfLessAndEq
      split <;> rename_i h1
      · simp [h1]
      · split <;> simp [h1]
    · rw [order_nan (.inr hb)]; rfl
  · rw [order_nan (.inl ha)]; rfl
theorem ord_gt (a b : Nat) : (FloatKind.f64.format.order a b == some Ordering.gt) = fLt b a := by
  show (double.order a b == some Ordering.gt) = fLt b a
  unfold fLt
  cases ha : isNan a
  · cases hb : isNan b
    · rw [order_key ha hb]
      show (some (compareOfLessAndEq _ _) == _) = _
      unfold compareOfLessAndEq
      split <;> rename_i h1
      · have : ¬ key b < key a := by omega
        simp [this]
      · split <;> rename_i h2
        · have : ¬ key b < key a := by omega
          simp [this]
        · have : key b < key a := by omega
          simp [this]
    · rw [order_nan (.inr hb)]; rfl
  · rw [order_nan (.inl ha)]; cases isNan b <;> rfl
theorem ord_eq (a b : Nat) : (FloatKind.f64.format.order a b == some Ordering.eq) = fEq a b := by
  show (double.order a b == some Ordering.eq) = fEq a b
  unfold fEq
  cases ha : isNan a
  · cases hb : isNan b
    · rw [order_key ha hb]
      show (some (compareOfLessAndEq _ _) == _) = _
      unfold compareOfLessAndEq
      split <;> rename_i h1
      · have : ¬ key a = key b := by omega
        simp [this]
      · split <;> rename_i h2
        · simp [h2]
        · simp [h2]
    · rw [order_nan (.inr hb)]; rfl
  · rw [order_nan (.inl ha)]; rfl
theorem ord_ne (a b : Nat) : (FloatKind.f64.format.order a b != some Ordering.eq) = !fEq a b := by
  show (!(FloatKind.f64.format.order a b == some Ordering.eq)) = _
  rw [ord_eq]

/- THE BITS THAT THE PROGRAM TAKES -/
theorem bits_mag {b : Nat} (h : b < 18446744073709551616) : bits .andNot .u64 (b : Int) 9223372036854775808 = (rung b : Int) := by
  rw [show (9223372036854775808 : Int) = ((9223372036854775808 : Nat) : Int) from rfl, u64_andNot_nat b _ h (by decide)]
  congr 1
  exact Nat.and_two_pow_sub_one_eq_mod b 63
theorem bits_sign {b : Nat} (h : b < 18446744073709551616) : bits .and .u64 (b : Int) 9223372036854775808 = if isNeg b then 9223372036854775808 else 0 := by
  rw [show (9223372036854775808 : Int) = ((9223372036854775808 : Nat) : Int) from rfl, u64_and_nat b _ h (by decide)]
  have h1 := nat_bit 63 b
  rw [show (2 : Nat) ^ 63 = 9223372036854775808 by decide] at h1
  rw [h1]
  unfold isNeg
  have h2 : b / 9223372036854775808 % 2 = 0 ∨ b / 9223372036854775808 % 2 = 1 := by omega
  rcases h2 with h2 | h2 <;> rw [h2] <;> rfl
theorem bits_sign_or {b : Nat} (h : b < 9223372036854775808) : bits .or .u64 (b : Int) 9223372036854775808 = ((9223372036854775808 + b : Nat) : Int) := by
  rw [show (9223372036854775808 : Int) = ((9223372036854775808 : Nat) : Int) from rfl, u64_or_nat b _ (by omega) (by decide), Nat.or_comm]
  congr 1
  exact nat_join 63 _ _ (by decide) (by omega)
theorem i64_not_pos (a : Nat) (ha : a < 9223372036854775808) : bits .xor .i64 (-1) (a : Int) = -1 - (a : Int) := by
  show IntKind.i64.wrap ((BitVec.ofInt 64 (-1) ^^^ BitVec.ofInt 64 (a : Int)).toNat : Int) = _
  have h1 : BitVec.ofInt 64 (-1) = BitVec.allOnes 64 := by decide
  rw [h1, BitVec.allOnes_xor, BitVec.toNat_not, ofInt_u64 a (by omega)]
  simp [IntKind.wrap, IntKind.bits, IntKind.signed]
  omega
theorem i64_not_neg (k : Nat) (h : k < 9223372036854775808) : bits .xor .i64 (-1) (-(k : Int) - 1) = k := by
  show IntKind.i64.wrap ((BitVec.ofInt 64 (-1) ^^^ BitVec.ofInt 64 (-(k : Int) - 1)).toNat : Int) = _
  have h1 : BitVec.ofInt 64 (-1) = BitVec.allOnes 64 := by decide
  have h2 : (-(k : Int) - 1) = Int.negSucc k := by omega
  rw [h1, h2, BitVec.ofInt_negSucc_eq_not_ofNat, BitVec.allOnes_xor, BitVec.not_not, BitVec.toNat_ofNat]
  simp [IntKind.wrap, IntKind.bits, IntKind.signed]
  omega
theorem rung_lt (b : Nat) : rung b < 9223372036854775808 := Nat.mod_lt _ (by decide)

/-- the program's rank of a number -/
def rankI (b : Nat) : Int := if isNan b then 9218868437227405313 else if isNeg b then -1 - (rung b : Int) else rung b
/-- the number at a rank -/
def numB (r : Int) : Nat := if r < 0 then 9223372036854775808 + (-1 - r).toNat else r.toNat
def stepB (b : Nat) (last d : Int) : Nat × Int := if rankI b = last ∨ rankI b = 9218868437227405313 then (0, 16) else (numB (rankI b + d), 0)
def cmpZ (a b : Int) : Int := if a < b then -1 else if b < a then 1 else 0
theorem rankI_bounds (b : Nat) : -9223372036854775808 ≤ rankI b ∧ rankI b ≤ 9223372036854775807 := by
  have := rung_lt b
  unfold rankI; split
  · omega
  · split <;> omega
theorem split_bits {b : Nat} (h : b < 18446744073709551616) : b = (if isNeg b then 9223372036854775808 else 0) + rung b := by
  unfold isNeg rung
  have h2 : b / 9223372036854775808 = 0 ∨ b / 9223372036854775808 = 1 := by omega
  rcases h2 with h2 | h2 <;> rw [h2] <;> simp <;> omega
/-- the reference's class -/
def classI (b : Nat) : Int :=
  if isNan b then 6 else if b = 9218868437227405312 then 5 else if b = 18442240474082181120 then 0 else if b = 0 then 3
  else if b = 9223372036854775808 then 2 else if isNeg b then 1 else 4
theorem isNan_zero : isNan 0 = false := by decide
theorem key_zero : key 0 = 0 := by decide
theorem fLt_zero {b : Nat} (h : isNan b = false) : fLt b 0 = (isNeg b && decide (0 < rung b)) := by
  unfold fLt; rw [h, isNan_zero, key_zero]; unfold key
  cases isNeg b
  · have : ¬ ((rung b : Int) < 0) := by omega
    simp
  · simp
theorem fEq_self (b : Nat) : fEq b b = !isNan b := by unfold fEq; cases isNan b <;> simp
def refOrder (a b : Nat) : Int := if classI a = classI b then (if fLt a b then -1 else if fLt b a then 1 else 0) else if classI a < classI b then -1 else 1
def refNext (b : Nat) : Nat × Bool :=
  if classI b = 5 ∨ classI b = 6 then (0, false) else if classI b = 2 then (0, true) else if classI b = 0 ∨ classI b = 1 then (b - 1, true) else (b + 1, true)
def refPrev (b : Nat) : Nat × Bool :=
  if classI b = 0 ∨ classI b = 6 then (0, false) else if classI b = 3 then (9223372036854775808, true) else if classI b = 1 ∨ classI b = 2 then (b + 1, true) else (b - 1, true)
def sameB (a b : Nat) : Bool := (isNan a && isNan b) || a == b
theorem fLt_zero' {b : Nat} (hb : b < 18446744073709551616) (h : isNan b = false) (h0 : ¬ b = 9223372036854775808) : fLt b 0 = isNeg b := by
  rw [fLt_zero h]
  have := split_bits hb
  cases hn : isNeg b
  · rfl
  · rw [hn] at this
    have : 0 < rung b := by simp at this; omega
    simp [this]
theorem ordP_eq (a b : Nat) : FloatKind.f64.format.order a b = some Ordering.eq ↔ fEq a b = true := by rw [← ord_eq]; simp
theorem ordP_lt (a b : Nat) : FloatKind.f64.format.order a b = some Ordering.lt ↔ fLt a b = true := by rw [← ord_lt]; simp
theorem ordP_gt (a b : Nat) : FloatKind.f64.format.order a b = some Ordering.gt ↔ fLt b a = true := by rw [← ord_gt]; simp
end Go.Proofs.Ytadnehnhgnfclaa
