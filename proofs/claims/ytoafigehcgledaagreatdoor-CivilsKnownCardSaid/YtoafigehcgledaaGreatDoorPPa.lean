/-
  DERIVED. What all walks of this seat share: a fact kept out of the walk's sight; how results are told alike; quotients and remainders.
  DERIVED. PLAIN MATHEMATICS of layer 1 (ints): quotients that round down, and remainders. Nothing of the program.
  DERIVED. PLAIN MATHEMATICS of decimal digits, the least first. Nothing of the program.
  DERIVED. PLAIN MATHEMATICS of texts of numbers. Nothing of the program.
  DERIVED. YEARS AS WHOLE NUMBERS: leap years, lengths, first days. No program.
  DERIVED. MONTHS AS WHOLE NUMBERS: lengths, first days, indices. No program.
  DERIVED. CIVIL DAYS AS WHOLE NUMBERS: which are right, their days, weekdays, ordinals, order. No program.
  DERIVED. TEXTS OF CIVIL DAYS AS LISTS OF BYTES: places of digits, years with at least four digits, the form of a text. No program.
-/
import Derived.Test.YtoafigehcgledaaGreatDoorProg
import Derived.WalkKit
import Derived.WalkSpells
import Derived.WalkLawsBesides
import Derived.Lib.ParseIntB
import Derived.Lib.ParseIntBCases
import Derived.Lib.SlTrimSet
import Derived.Lib.Strings
import Derived.Lib.ItoaNum
namespace Go.Proofs.YtoafigehcgledaaGreatDoor
open Go.RowKit

/-- a fact kept out of the walk's sight (a structure: no tactic looks through it) -/
structure Kp (p : Prop) : Prop where
  out : p
theorem ret_int {k : IntKind} {a b : Int} (h : a = b) : Ending.returned (.int k a) = .returned (.int k b) := by rw [h]
theorem ret_bool {a b : Bool} (h : a = b) : Ending.returned (.bool a) = .returned (.bool b) := by rw [h]
theorem ret_two {a b c d : Value} (h : a = c) (g : b = d) : Ending.returned (.tuple #[a, b]) = .returned (.tuple #[c, d]) := by rw [h, g]

/-- quotients and remainders as Go has them -/
theorem tmod_of {a k : Int} (hk : 0 < k) : Int.tmod a k = if 0 ≤ a ∨ a % k = 0 then a % k else a % k - k := by
  rw [Int.tmod_eq_emod]
  by_cases h : 0 ≤ a ∨ a % k = 0
  · rw [if_pos h, if_pos (by rcases h with h | h; exact .inl h; exact .inr (Int.dvd_of_emod_eq_zero h))]; omega
  · rw [if_neg h, if_neg (by
      rintro (e | e)
      · exact h (.inl e)
      · exact h (.inr (Int.emod_eq_zero_of_dvd e)))]
    omega
theorem tdiv_of {a k : Int} (hk : 0 < k) : Int.tdiv a k = if 0 ≤ a ∨ a % k = 0 then a / k else a / k + 1 := by
  rw [Int.tdiv_eq_ediv]
  by_cases h : 0 ≤ a ∨ a % k = 0
  · rw [if_pos h, if_pos (by rcases h with h | h; exact .inl h; exact .inr (Int.dvd_of_emod_eq_zero h))]; omega
  · rw [if_neg h, if_neg (by
      rintro (e | e)
      · exact h (.inl e)
      · exact h (.inr (Int.emod_eq_zero_of_dvd e))), Int.sign_eq_one_of_pos hk]
end Go.Proofs.YtoafigehcgledaaGreatDoor
namespace Go.Proofs.YtoafigehcgledaaGreatDoor

def differB (a b : Int) : Bool := decide (a < 0) != decide (b < 0)
theorem differB_true {a b : Int} (h : (a < 0 ∧ 0 ≤ b) ∨ (0 ≤ a ∧ b < 0)) : differB a b = true := by
  unfold differB
  rcases h with ⟨h, g⟩ | ⟨h, g⟩
  · rw [decide_eq_true h, decide_eq_false (by omega)]; rfl
  · rw [decide_eq_false (by omega), decide_eq_true g]; rfl
theorem differB_false {a b : Int} (h : (a < 0 ∧ b < 0) ∨ (0 ≤ a ∧ 0 ≤ b)) : differB a b = false := by
  unfold differB
  rcases h with ⟨h, g⟩ | ⟨h, g⟩
  · rw [decide_eq_true h, decide_eq_true g]; rfl
  · rw [decide_eq_false (by omega), decide_eq_false (by omega)]; rfl

theorem of_differB {a b : Int} (h : differB a b = true) : (a < 0 ∧ 0 ≤ b) ∨ (0 ≤ a ∧ b < 0) := by
  by_cases c : (a < 0 ∧ b < 0) ∨ (0 ≤ a ∧ 0 ≤ b)
  · rw [differB_false c] at h; cases h
  · omega

theorem tmod_sign (a b : Int) : (0 ≤ a → 0 ≤ a.tmod b) ∧ (a ≤ 0 → a.tmod b ≤ 0) := by
  constructor
  · intro h; exact Int.tmod_nonneg b h
  · intro h
    have := Int.tmod_nonneg b (show 0 ≤ -a by omega)
    rw [Int.neg_tmod] at this; omega
theorem tmod_abs (a b : Int) (h : ¬ b = 0) : (0 < b → -b < a.tmod b ∧ a.tmod b < b) ∧ (b < 0 → b < a.tmod b ∧ a.tmod b < -b) := by
  have h1 := Int.natAbs_tmod a b
  have h2 := Nat.mod_lt a.natAbs (show 0 < b.natAbs by omega)
  constructor <;> intro <;> omega
/-- the remainder, and the quotient that rounds down -/
def fmd (a b : Int) : Int := if ¬ a.tmod b = 0 ∧ differB (a.tmod b) b = true then a.tmod b + b else a.tmod b
def fdv (a b : Int) : Int := if ¬ a.tmod b = 0 ∧ differB a b = true then a.tdiv b - 1 else a.tdiv b
theorem differB_tmod (a b : Int) (h : ¬ a.tmod b = 0) : differB (a.tmod b) b = differB a b := by
  have := tmod_sign a b
  unfold differB
  by_cases g : a < 0
  · rw [decide_eq_true g, decide_eq_true (show a.tmod b < 0 by omega)]
  · rw [decide_eq_false g, decide_eq_false (show ¬ a.tmod b < 0 by omega)]
theorem fdv_fmd (a b : Int) : fdv a b * b + fmd a b = a := by
  have h := Int.mul_tdiv_add_tmod a b
  unfold fdv fmd
  by_cases g : a.tmod b = 0
  · rw [if_neg (by simp [g]), if_neg (by simp [g]), Int.mul_comm]; exact h
  · rw [differB_tmod a b g]
    by_cases d : differB a b = true
    · rw [if_pos ⟨g, d⟩, if_pos ⟨g, d⟩, Int.sub_mul, Int.mul_comm]; omega
    · rw [if_neg (by simp [d]), if_neg (by simp [d]), Int.mul_comm]; exact h
theorem fmd_pos (a b : Int) (h : 0 < b) : 0 ≤ fmd a b ∧ fmd a b < b := by
  have h1 := (tmod_abs a b (by omega)).1 h
  unfold fmd
  by_cases g : a.tmod b < 0
  · rw [if_pos ⟨by omega, differB_true (by omega)⟩]; omega
  · rw [if_neg (fun c => by rw [differB_false (by omega)] at c; exact absurd c.2 (by decide))]; omega
theorem fmd_neg (a b : Int) (h : b < 0) : fmd a b ≤ 0 ∧ b < fmd a b := by
  have h1 := (tmod_abs a b (by omega)).2 h
  unfold fmd
  by_cases g : 0 < a.tmod b
  · rw [if_pos ⟨by omega, differB_true (by omega)⟩]; omega
  · by_cases g0 : a.tmod b = 0
    · rw [if_neg (by simp [g0])]; omega
    · rw [if_neg (fun c => by rw [differB_false (by omega)] at c; exact absurd c.2 (by decide))]; omega
theorem fdv_floor (a b : Int) (h : 0 < b) : fdv a b = a / b := by
  have h1 := fdv_fmd a b
  have h2 := fmd_pos a b h
  have : (fdv a b * b + fmd a b) / b = fdv a b := by
    rw [Int.add_comm, Int.add_mul_ediv_right _ _ (by omega), Int.ediv_eq_zero_of_lt h2.1 h2.2]; omega
  rw [← this, h1]
theorem fdv_mono (a c b : Int) (h : 0 < b) (g : a ≤ c) : fdv a b ≤ fdv c b := by
  rw [fdv_floor a b h, fdv_floor c b h]; exact Int.ediv_le_ediv h g
theorem tdiv_bound (a b : Int) (h0 : -9223372036854775808 ≤ a) (h1 : a ≤ 9223372036854775807) (h : ¬ (a = -9223372036854775808 ∧ b = -1)) : -9223372036854775808 ≤ a.tdiv b ∧ a.tdiv b ≤ 9223372036854775807 := by
  have h2 : (a.tdiv b).natAbs = a.natAbs / b.natAbs := Int.natAbs_tdiv a b
  have h3 : a.natAbs / b.natAbs ≤ a.natAbs := Nat.div_le_self _ _
  by_cases e : a = -9223372036854775808
  · have hb : ¬ b = -1 := fun g => h ⟨e, g⟩
    by_cases g : b = 1
    · subst g; rw [Int.tdiv_one]; omega
    · have : a.natAbs / b.natAbs ≤ a.natAbs / 2 ∨ b = 0 := by
        by_cases z : b = 0
        · exact .inr z
        · exact .inl (Nat.div_le_div_left (by omega) (by omega))
      rcases this with g | g
      · omega
      · subst g; rw [Int.tdiv_zero]; omega
  · omega
theorem tdiv_less (a b : Int) (h0 : -9223372036854775808 ≤ a) (h1 : a ≤ 9223372036854775807) (h : ¬ a.tmod b = 0) : -4611686018427387904 ≤ a.tdiv b ∧ a.tdiv b ≤ 4611686018427387904 := by
  have h2 : (a.tdiv b).natAbs = a.natAbs / b.natAbs := Int.natAbs_tdiv a b
  have g1 : ¬ b = 1 := fun g => h (by rw [g, Int.tmod_one])
  have g2 : ¬ b = -1 := fun g => h (by rw [g, Int.tmod_neg, Int.tmod_one])
  by_cases z : b = 0
  · subst z; rw [Int.tdiv_zero]; omega
  · have : a.natAbs / b.natAbs ≤ a.natAbs / 2 := Nat.div_le_div_left (by omega) (by omega)
    omega
theorem fdv_bound (a b : Int) (h0 : -9223372036854775808 ≤ a) (h1 : a ≤ 9223372036854775807) (h : ¬ (a = -9223372036854775808 ∧ b = -1)) : -9223372036854775808 ≤ fdv a b ∧ fdv a b ≤ 9223372036854775807 := by
  unfold fdv
  by_cases g : ¬ a.tmod b = 0 ∧ differB a b = true
  · rw [if_pos g]; have := tdiv_less a b h0 h1 g.1; omega
  · rw [if_neg g]; exact tdiv_bound a b h0 h1 h
end Go.Proofs.YtoafigehcgledaaGreatDoor
namespace Go.Proofs.YtoafigehcgledaaGreatDoor

/-- the digits of a number, the least first -/
def dg (n : Nat) : List Nat := if h : n = 0 then [] else n % 10 :: dg (n / 10)
termination_by n
decreasing_by omega
def vl : List Nat → Nat
  | [] => 0
  | d :: r => d + 10 * vl r
theorem dg_zero : dg 0 = [] := by unfold dg; simp
theorem dg_pos {n : Nat} (h : ¬ n = 0) : dg n = n % 10 :: dg (n / 10) := by rw [dg]; simp [h]
theorem vl_dg (n : Nat) : vl (dg n) = n := by
  induction n using Nat.strongRecOn with
  | _ n ih =>
    by_cases h : n = 0
    · subst h; rw [dg_zero]; rfl
    · rw [dg_pos h]; unfold vl; rw [ih (n / 10) (by omega)]; omega
theorem dg_le (n : Nat) : ∀ d ∈ dg n, d ≤ 9 := by
  induction n using Nat.strongRecOn with
  | _ n ih =>
    by_cases h : n = 0
    · subst h; rw [dg_zero]; simp
    · rw [dg_pos h]
      intro d hd
      rcases List.mem_cons.1 hd with rfl | hd
      · omega
      · exact ih (n / 10) (by omega) d hd
theorem dg_nil {n : Nat} : dg n = [] ↔ n = 0 := by
  constructor
  · intro h; have := vl_dg n; rw [h] at this; exact this.symm
  · rintro rfl; exact dg_zero
theorem vl_append (a b : List Nat) : vl (a ++ b) = vl a + 10 ^ a.length * vl b := by
  induction a with
  | nil => simp [vl]
  | cons d r ih => simp only [List.cons_append, vl, ih, List.length_cons, Nat.pow_succ]; rw [Nat.mul_add, Nat.add_assoc, ← Nat.mul_assoc, Nat.mul_comm 10 (10 ^ r.length)]
theorem vl_snoc (a : List Nat) (d : Nat) : vl (a ++ [d]) = vl a + 10 ^ a.length * d := by rw [vl_append]; simp [vl]
theorem vl_lt (l : List Nat) (h : ∀ d ∈ l, d ≤ 9) : vl l < 10 ^ l.length := by
  induction l with
  | nil => simp [vl]
  | cons d r ih =>
    have h1 := h d (by simp)
    have h2 := ih (fun x hx => h x (by simp [hx]))
    simp only [vl, List.length_cons, Nat.pow_succ]; omega
/-- a list of digits without zeros at the end is that of its value -/
theorem dg_vl (l : List Nat) (h : ∀ d ∈ l, d ≤ 9) (hl : ∀ a, l = a ++ [0] → False) : dg (vl l) = l := by
  induction l with
  | nil => exact dg_zero
  | cons d r ih =>
    have hd := h d (by simp)
    have h1 : ∀ a, r = a ++ [0] → False := fun a e => hl (d :: a) (by rw [e]; rfl)
    have h2 := ih (fun x hx => h x (by simp [hx])) h1
    have h3 : ¬ vl (d :: r) = 0 := by
      intro e
      unfold vl at e
      have e1 : d = 0 := by omega
      have e2 : vl r = 0 := by omega
      rw [e2, dg_zero] at h2
      exact hl [] (by rw [e1, ← h2]; rfl)
    rw [dg_pos h3]
    have h0 : vl (d :: r) = d + 10 * vl r := rfl
    have h4 : vl (d :: r) % 10 = d := by omega
    have h5 : vl (d :: r) / 10 = vl r := by omega
    rw [h4, h5, h2]
theorem vl_zero_snoc (a : List Nat) : vl (a ++ [0]) = vl a := by rw [vl_snoc]; simp
theorem dg_length_le (n k : Nat) (h : n < 10 ^ k) : (dg n).length ≤ k := by
  induction k generalizing n with
  | zero => have : n = 0 := by simpa using h
            rw [this, dg_zero]; simp
  | succ k ih =>
    by_cases e : n = 0
    · rw [e, dg_zero]; simp
    · rw [dg_pos e]
      have := ih (n / 10) (by rw [Nat.pow_succ] at h; omega)
      simp; omega
theorem dg_last (n : Nat) (a : List Nat) : dg n = a ++ [0] → False := by
  induction n using Nat.strongRecOn generalizing a with
  | _ n ih =>
    intro h
    by_cases e : n = 0
    · rw [e, dg_zero] at h; simp at h
    · rw [dg_pos e] at h
      cases a with
      | nil =>
        simp only [List.nil_append, List.cons.injEq] at h
        have := dg_nil.1 h.2
        omega
      | cons x t =>
        simp only [List.cons_append, List.cons.injEq] at h
        exact ih (n / 10) (by omega) t h.2
theorem pow_le_vl (l : List Nat) (h : ∀ a, l = a ++ [0] → False) (hl : ¬ l = []) : 10 ^ (l.length - 1) ≤ vl l := by
  induction l with
  | nil => exact absurd rfl hl
  | cons d r ih =>
    by_cases e : r = []
    · subst e
      have : ¬ d = 0 := fun z => h [] (by rw [z]; rfl)
      simp [vl]; omega
    · have := ih (fun a e => h (d :: a) (by rw [e]; rfl)) e
      have hp : r.length = (r.length - 1) + 1 := by cases r with | nil => exact absurd rfl e | cons _ _ => simp
      simp only [vl, List.length_cons, Nat.add_sub_cancel]
      rw [hp, Nat.pow_succ]; omega
/-- the digit at a place, 0 behind the last one -/
def at0 (l : List Nat) (i : Nat) : Nat := l.getD i 0
theorem vl_drop (l : List Nat) (i : Nat) : vl (l.drop i) = at0 l i + 10 * vl (l.drop (i + 1)) := by
  induction l generalizing i with
  | nil => simp [at0, vl]
  | cons d r ih =>
    cases i with
    | zero => simp [at0, vl]
    | succ i => simpa [at0] using ih i
theorem at0_le (l : List Nat) (h : ∀ d ∈ l, d ≤ 9) (i : Nat) : at0 l i ≤ 9 := by
  unfold at0
  rw [List.getD_eq_getElem?_getD]
  cases e : l[i]? with
  | none => simp
  | some d => exact h d (List.mem_of_getElem? e)
/-- canonical: digits, and no zero at the end -/
def Can (l : List Nat) : Prop := (∀ d ∈ l, d ≤ 9) ∧ ∀ a, l = a ++ [0] → False
theorem Can.dg (n : Nat) : Can (dg n) := ⟨dg_le n, dg_last n⟩
theorem Can.eq {l : List Nat} (h : Can l) : Go.Proofs.YtoafigehcgledaaGreatDoor.dg (vl l) = l := dg_vl l h.1 h.2
theorem less_len {a b : List Nat} (ha : Can a) (hb : Can b) (h : a.length < b.length) : vl a < vl b := by
  have h1 := vl_lt a ha.1
  have h2 := pow_le_vl b hb.2 (by rintro rfl; simp at h)
  have h3 : 10 ^ a.length ≤ 10 ^ (b.length - 1) := Nat.pow_le_pow_right (by decide) (by omega)
  omega
theorem vl_split (l : List Nat) (i : Nat) : vl l = vl (l.take i) + 10 ^ (l.take i).length * vl (l.drop i) := by
  rw [← vl_append, List.take_append_drop]
theorem less_at {a b : List Nat} (ha : Can a) (hl : a.length = b.length) (i : Nat) (hi : i < a.length) (hd : vl (a.drop (i + 1)) = vl (b.drop (i + 1))) (h : at0 a i < at0 b i) : vl a < vl b := by
  rw [vl_split a i, vl_split b i, vl_drop a i, vl_drop b i, hd]
  have e1 : (a.take i).length = i := by simp; omega
  have e2 : (b.take i).length = i := by simp; omega
  have h1 := vl_lt (a.take i) (fun d hd => ha.1 d (List.mem_of_mem_take hd))
  rw [e1] at h1 ⊢
  rw [e2]
  have h2 : 10 ^ i * (at0 a i + 1 + 10 * vl (b.drop (i + 1))) ≤ 10 ^ i * (at0 b i + 10 * vl (b.drop (i + 1))) := Nat.mul_le_mul_left _ (by omega)
  have h3 : 10 ^ i * (at0 a i + 1 + 10 * vl (b.drop (i + 1))) = 10 ^ i * (at0 a i + 10 * vl (b.drop (i + 1))) + 10 ^ i := by
    rw [show at0 a i + 1 + 10 * vl (b.drop (i + 1)) = at0 a i + 10 * vl (b.drop (i + 1)) + 1 from by omega, Nat.mul_add, Nat.mul_one]
  omega
end Go.Proofs.YtoafigehcgledaaGreatDoor
namespace Go.Proofs.YtoafigehcgledaaGreatDoor

def cs10 : List UInt8 := [48, 49, 50, 51, 52, 53, 54, 55, 56, 57]
def textB (l : List UInt8) : Bool := l == [48] || (match Lib.trimPrefix l [45] with
  | [] => false
  | c :: r => (c.toNat : Int) != 48 && (Lib.trimS (c :: r) cs10).isEmpty)
/-! ## What a text says, as plain mathematics -/
def valM (acc : Nat) : List UInt8 → Nat
  | [] => acc
  | c :: r => valM (acc * 10 + (c.toNat - 48)) r
def dig (c : UInt8) : Prop := 48 ≤ c.toNat ∧ c.toNat ≤ 57
theorem valM_ge (l : List UInt8) : ∀ acc, acc ≤ valM acc l := by
  induction l with
  | nil => intro acc; exact Nat.le_refl _
  | cons c r ih => intro acc; have := ih (acc * 10 + (c.toNat - 48)); unfold valM; omega
theorem parseUintM_nil (acc : Nat) : Lib.parseUintM 18446744073709551615 acc [] = .ok acc := by rw [Lib.parseUintM]
theorem parseUintM_val (l : List UInt8) : ∀ acc, acc ≤ 18446744073709551615 → (∀ c ∈ l, dig c) →
    Lib.parseUintM 18446744073709551615 acc l = if valM acc l ≤ 18446744073709551615 then .ok (valM acc l) else .range := by
  induction l with
  | nil => intro acc ha _; rw [parseUintM_nil]; exact (if_pos ha).symm
  | cons c r ih =>
    intro acc ha hd
    have hc := hd c (by simp)
    have hg := valM_ge r (acc * 10 + (c.toNat - 48))
    unfold dig at hc
    have e : valM acc (c :: r) = valM (acc * 10 + (c.toNat - 48)) r := rfl
    rw [e, Lib.parseUintM, if_pos hc]
    by_cases h1 : 1844674407370955162 ≤ acc
    · rw [if_pos h1, if_neg (by omega)]
    · rw [if_neg h1]
      by_cases h2 : 18446744073709551615 < acc * 10 + (c.toNat - 48)
      · rw [if_pos h2, if_neg (by omega)]
      · rw [if_neg h2]
        exact ih _ (by omega) (fun x hx => hd x (by simp [hx]))
def textVal : List UInt8 → Int
  | [] => 0
  | c :: r => if c.toNat = 45 then -(valM 0 r : Int) else valM 0 (c :: r)
theorem textVal_minus (r : List UInt8) : textVal (45 :: r) = -(valM 0 r : Int) := by simp [textVal]
theorem textVal_plain (c : UInt8) (r : List UInt8) (h : ¬ c.toNat = 45) : textVal (c :: r) = (valM 0 (c :: r) : Int) := if_neg h
/-- the form of a text -/
def Form (l : List UInt8) : Prop := l = [48] ∨ ∃ c r, (l = c :: r ∨ l = 45 :: c :: r) ∧ ¬ c.toNat = 48 ∧ ∀ x ∈ c :: r, dig x
theorem cs10_iff (c : UInt8) : cs10.contains c = true ↔ dig c := by
  unfold cs10 dig
  simp only [List.contains_eq_mem, decide_eq_true_eq, List.mem_cons, List.not_mem_nil, or_false, ← UInt8.toNat_inj]
  simp
  omega
theorem dropWhile_nil {p : UInt8 → Bool} {l : List UInt8} : l.dropWhile p = [] ↔ ∀ x ∈ l, p x = true := by
  induction l with
  | nil => simp
  | cons a r ih =>
    rw [List.dropWhile_cons]
    cases h : p a with
    | true => simp [h, ih]
    | false => simp [h]
theorem dropWhile_all {p : UInt8 → Bool} {l : List UInt8} (h : ∀ x ∈ l.dropWhile p, p x = true) : l.dropWhile p = [] := by
  induction l with
  | nil => rfl
  | cons a r ih =>
    rw [List.dropWhile_cons] at h ⊢
    cases g : p a with
    | true => rw [g] at h; exact ih (by simpa using h)
    | false => rw [g] at h; have := h a (by simp); rw [g] at this; cases this
theorem trimS_nil (l : List UInt8) : (Lib.trimS l cs10).isEmpty = true ↔ ∀ x ∈ l, dig x := by
  unfold Lib.trimS Lib.trimLeftS Lib.trimRightS
  rw [List.isEmpty_iff]
  constructor
  · intro h
    have h1 := dropWhile_nil.1 h
    have h2 : l.reverse.dropWhile (cs10.contains ·) = [] := dropWhile_all (fun x hx => h1 x (by simpa using hx))
    have h3 := dropWhile_nil.1 h2
    exact fun x hx => (cs10_iff x).1 (h3 x (by simpa using hx))
  · intro h
    have h2 : l.reverse.dropWhile (cs10.contains ·) = [] := dropWhile_nil.2 (fun x hx => (cs10_iff x).2 (h x (by simpa using hx)))
    rw [h2]; rfl
theorem trimPrefix_minus (r : List UInt8) : Lib.trimPrefix (45 :: r) [45] = r := by
  simp [Lib.trimPrefix, Lib.hasPrefix]
theorem trimPrefix_other (c : UInt8) (r : List UInt8) (h : ¬ c.toNat = 45) : Lib.trimPrefix (c :: r) [45] = c :: r := by
  have : ¬ c = 45 := fun e => h (by rw [e]; rfl)
  simp [Lib.trimPrefix, Lib.hasPrefix]
  exact fun e => absurd e (by first | exact this | exact fun g => this g.symm)
theorem textB_iff (l : List UInt8) : textB l = true ↔ Form l := by
  have body : ∀ c r, ((c.toNat : Int) != 48 && (Lib.trimS (c :: r) cs10).isEmpty) = true ↔ ¬ c.toNat = 48 ∧ ∀ x ∈ c :: r, dig x := by
    intro c r
    rw [Bool.and_eq_true, trimS_nil, bne_iff_ne]
    constructor
    · exact fun h => ⟨fun e => h.1 (by omega), h.2⟩
    · exact fun h => ⟨fun e => h.1 (by omega), h.2⟩
  unfold textB Form
  rw [Bool.or_eq_true]
  constructor
  · rintro (h | h)
    · exact .inl (by simpa using h)
    · right
      cases l with
      | nil => simp [Lib.trimPrefix, Lib.hasPrefix] at h
      | cons a t =>
        by_cases ha : a.toNat = 45
        · have e : a = 45 := UInt8.toNat_inj.1 ha
          subst e
          rw [trimPrefix_minus] at h
          cases t with
          | nil => cases h
          | cons c r => exact ⟨c, r, .inr rfl, (body c r).1 h⟩
        · rw [trimPrefix_other a t ha] at h
          exact ⟨a, t, .inl rfl, (body a t).1 h⟩
  · rintro (h | ⟨c, r, h, hb⟩)
    · exact .inl (by simp [h])
    · right
      rcases h with rfl | rfl
      · rw [trimPrefix_other c r (by have := hb.2 c (by simp); unfold dig at this; omega)]
        exact (body c r).2 hb
      · rw [trimPrefix_minus]
        exact (body c r).2 hb
theorem parse_val (l : List UInt8) (h : Form l) : Lib.parseIntB 64 l = if -9223372036854775808 ≤ textVal l ∧ textVal l ≤ 9223372036854775807 then .ok (textVal l) else .range := by
  have key : ∀ c r, (∀ x ∈ c :: r, dig x) → Lib.parseUintB 64 (c :: r) = if valM 0 (c :: r) ≤ 18446744073709551615 then .ok (valM 0 (c :: r)) else .range := by
    intro c r hd
    have e : Lib.parseUintB 64 (c :: r) = Lib.parseUintM 18446744073709551615 0 (c :: r) := rfl
    rw [e]
    exact parseUintM_val _ 0 (by omega) hd
  have pos : ∀ c r, (∀ x ∈ c :: r, dig x) → Lib.parseIntB 64 (c :: r) = if -9223372036854775808 ≤ textVal (c :: r) ∧ textVal (c :: r) ≤ 9223372036854775807 then .ok (textVal (c :: r)) else .range := by
    intro c r hd
    have hc := hd c (by simp)
    unfold dig at hc
    rw [Lib.parseIntB_plain 64 c r (by omega) (by omega), key c r hd]
    have e : textVal (c :: r) = valM 0 (c :: r) := if_neg (by omega)
    rw [e]
    by_cases h1 : valM 0 (c :: r) ≤ 18446744073709551615
    · rw [if_pos h1]
      by_cases h2 : 9223372036854775808 ≤ valM 0 (c :: r)
      · rw [if_neg (by omega)]
        show (if 2 ^ (64 - 1) ≤ _ then _ else _) = _
        rw [if_pos (by simpa using h2)]
      · rw [if_pos (by omega)]
        show (if 2 ^ (64 - 1) ≤ _ then _ else _) = _
        rw [if_neg (by simpa using h2)]
    · rw [if_neg h1, if_neg (by omega)]
      rfl
  rcases h with rfl | ⟨c, r, rfl | rfl, hb⟩
  · exact pos 48 [] (by intro x hx; simp at hx; subst hx; unfold dig; decide)
  · exact pos c r hb.2
  · rw [Lib.parseIntB_minus, key c r hb.2]
    have e : textVal (45 :: c :: r) = -(valM 0 (c :: r) : Int) := textVal_minus _
    rw [e]
    by_cases h1 : valM 0 (c :: r) ≤ 18446744073709551615
    · rw [if_pos h1]
      by_cases h2 : 9223372036854775808 < valM 0 (c :: r)
      · rw [if_neg (by omega)]
        show (if 2 ^ (64 - 1) < _ then _ else _) = _
        rw [if_pos (by simpa using h2)]
      · rw [if_pos (by omega)]
        show (if 2 ^ (64 - 1) < _ then _ else _) = _
        rw [if_neg (by simpa using h2)]
    · rw [if_neg h1, if_neg (by omega)]
      rfl
end Go.Proofs.YtoafigehcgledaaGreatDoor
namespace Go.Proofs.YtoafigehcgledaaGreatDoor

def leapB (y : Int) : Bool := y % 400 == 0 || (y % 4 == 0 && y % 100 != 0)
def lenI (y : Int) : Int := if leapB y then 366 else 365
/-- the leap years from 0 on that are less than y (less those from y on that are less than 0) -/
def Lp (y : Int) : Int := (y + 3) / 4 - (y + 99) / 100 + (y + 399) / 400
/-- the first day -/
def Sd (y : Int) : Int := 365 * y + Lp y
def isY (y : Int) : Bool := decide (-10000000000000000 ≤ y) && decide (y ≤ 10000000000000000)
theorem isY_iff (y : Int) : isY y = true ↔ -10000000000000000 ≤ y ∧ y ≤ 10000000000000000 := by unfold isY; simp
theorem leap_iff (y : Int) : leapB y = true ↔ y % 400 = 0 ∨ y % 4 = 0 ∧ ¬ y % 100 = 0 := by unfold leapB; simp
theorem Lp_succ (y : Int) : Lp (y + 1) = Lp y + (if leapB y then 1 else 0) := by
  have h := leap_iff y
  unfold Lp
  split
  · have := h.1 ‹_›; omega
  · have : ¬ (y % 400 = 0 ∨ y % 4 = 0 ∧ ¬ y % 100 = 0) := fun e => ‹¬ _› (h.2 e)
    omega
theorem Sd_succ (y : Int) : Sd (y + 1) = Sd y + lenI y := by
  unfold Sd lenI
  rw [Lp_succ]
  split <;> omega
theorem lenI_two (y : Int) : lenI y = 365 ∨ lenI y = 366 := by unfold lenI; split <;> simp
theorem Lp_400 (q r : Int) : Lp (400 * q + r) = 97 * q + Lp r := by unfold Lp; omega
theorem Sd_400 (q r : Int) : Sd (400 * q + r) = 146097 * q + Sd r := by unfold Sd; rw [Lp_400]; omega
theorem leap_400 (q r : Int) : leapB (400 * q + r) = leapB r := by
  rw [Bool.eq_iff_iff, leap_iff, leap_iff]
  omega
theorem Sd_lt {y z : Int} (h : y < z) : Sd y < Sd z := by unfold Sd Lp; omega
theorem Sd_le {y z : Int} (h : y ≤ z) : Sd y ≤ Sd z := by
  by_cases e : y = z
  · rw [e]; exact Int.le_refl _
  · exact Int.le_of_lt (Sd_lt (by omega))
theorem Lp_le {y z : Int} (h : y ≤ z) : Lp y ≤ Lp z := by unfold Lp; omega
/-- a year has a day -/
def YearHas (y d : Int) : Prop := Sd y ≤ d ∧ d < Sd (y + 1)
theorem year_uniq {y z d : Int} (h : YearHas y d) (g : YearHas z d) : y = z := by
  obtain ⟨h1, h2⟩ := h
  obtain ⟨g1, g2⟩ := g
  by_cases e : y < z
  · have := Sd_le (show y + 1 ≤ z by omega); omega
  · by_cases e2 : z < y
    · have := Sd_le (show z + 1 ≤ y by omega); omega
    · omega
theorem year_exists (d : Int) : ∃ y, YearHas y d := by
  obtain ⟨y, hy⟩ : ∃ y, y = 400 * d / 146097 := ⟨_, rfl⟩
  have h1 : 146097 * y ≤ 400 * d := by omega
  have h2 : 400 * d < 146097 * (y + 1) := by omega
  by_cases a : d < Sd y
  · refine ⟨y - 1, ?_, ?_⟩
    · unfold Sd Lp at *; omega
    · rw [show y - 1 + 1 = y by omega]; exact a
  · by_cases b : d < Sd (y + 1)
    · exact ⟨y, by omega, b⟩
    · refine ⟨y + 1, by omega, ?_⟩
      unfold Sd Lp at *; omega
theorem Sd_vals : Sd (-10000000000000000) = -3652425000000000000 ∧ Sd 10000000000000000 = 3652425000000000000 ∧ Sd 10000000000000001 = 3652425000000000366 := by decide
theorem Sd_in {y : Int} (h : isY y = true) : -3652425000000000000 ≤ Sd y ∧ Sd y ≤ 3652425000000000000 := by
  rw [isY_iff] at h
  have h1 := Sd_le h.1
  have h2 := Sd_le h.2
  have := Sd_vals
  omega
/-- which days are those of the calendar -/
theorem year_in {y d : Int} (h : YearHas y d) : isY y = true ↔ -3652425000000000000 ≤ d ∧ d ≤ 3652425000000000365 := by
  obtain ⟨h1, h2⟩ := h
  have hv := Sd_vals
  rw [isY_iff]
  constructor
  · rintro ⟨a, b⟩
    have := Sd_le a
    have := Sd_le (show y + 1 ≤ 10000000000000001 by omega)
    omega
  · rintro ⟨a, b⟩
    constructor
    · by_cases e : -10000000000000000 ≤ y
      · exact e
      · have := Sd_le (show y + 1 ≤ -10000000000000000 by omega); omega
    · by_cases e : y ≤ 10000000000000000
      · exact e
      · have := Sd_le (show 10000000000000001 ≤ y by omega); omega
end Go.Proofs.YtoafigehcgledaaGreatDoor
namespace Go.Proofs.YtoafigehcgledaaGreatDoor

/-- how many days a month has, in a year that has l -/
def mlen (l m : Int) : Int := if m = 4 ∨ m = 6 ∨ m = 9 ∨ m = 11 then 30 else if m = 2 then l - 337 else 31
/-- how many days of a year that has l lie ahead of a month -/
def moff (l m : Int) : Int :=
  if m ≤ 1 then 0 else if m = 2 then 31 else if m = 3 then l - 306 else if m = 4 then l - 275 else if m = 5 then l - 245 else if m = 6 then l - 214 else if m = 7 then l - 184
  else if m = 8 then l - 153 else if m = 9 then l - 122 else if m = 10 then l - 92 else if m = 11 then l - 61 else if m = 12 then l - 31 else l
theorem months {m : Int} (h1 : 1 ≤ m) (h2 : m ≤ 12) : m = 1 ∨ m = 2 ∨ m = 3 ∨ m = 4 ∨ m = 5 ∨ m = 6 ∨ m = 7 ∨ m = 8 ∨ m = 9 ∨ m = 10 ∨ m = 11 ∨ m = 12 := by omega
theorem moff_succ (l : Int) {m : Int} (h1 : 1 ≤ m) (h2 : m ≤ 12) : moff l (m + 1) = moff l m + mlen l m := by
  rcases months h1 h2 with rfl | rfl | rfl | rfl | rfl | rfl | rfl | rfl | rfl | rfl | rfl | rfl <;> simp [moff, mlen] <;> omega
def lenM (y m : Int) : Int := mlen (lenI y) m
/-- the first day of a month -/
def Sm (y m : Int) : Int := Sd y + moff (lenI y) m
theorem Sm_one (y : Int) : Sm y 1 = Sd y := by unfold Sm; rw [show moff (lenI y) 1 = 0 from rfl]; omega
theorem Sm_end (y : Int) : Sm y 13 = Sd (y + 1) := by
  unfold Sm
  rw [show moff (lenI y) 13 = lenI y by simp [moff], Sd_succ]
theorem Sm_succ {y m : Int} (h1 : 1 ≤ m) (h2 : m ≤ 12) : Sm y (m + 1) = Sm y m + lenM y m := by unfold Sm lenM; rw [moff_succ _ h1 h2]; omega
theorem mlen_in {l m : Int} (h : l = 365 ∨ l = 366) : 28 ≤ mlen l m ∧ mlen l m ≤ 31 := by unfold mlen; split <;> (try split) <;> omega
theorem lenM_in (y m : Int) : 28 ≤ lenM y m ∧ lenM y m ≤ 31 := mlen_in (lenI_two y)
theorem moff_in {l m : Int} (h : l = 365 ∨ l = 366) (h1 : 1 ≤ m) (h2 : m ≤ 13) : 0 ≤ moff l m ∧ moff l m ≤ l := by
  by_cases e : m = 13
  · subst e; simp [moff]; omega
  · rcases months h1 (by omega) with rfl | rfl | rfl | rfl | rfl | rfl | rfl | rfl | rfl | rfl | rfl | rfl <;> simp [moff] <;> omega
theorem Sm_in {y m : Int} (h1 : 1 ≤ m) (h2 : m ≤ 13) : Sd y ≤ Sm y m ∧ Sm y m ≤ Sd y + 366 := by
  have h := moff_in (lenI_two y) h1 h2
  have := lenI_two y
  unfold Sm; omega
/-- a month has a day -/
structure MonthHas (y m d : Int) : Prop where
  m0 : 1 ≤ m
  m1 : m ≤ 12
  lo : Sm y m ≤ d
  hi : d < Sm y (m + 1)
theorem Sm_lt {y m : Int} (n : Nat) (h1 : 1 ≤ m) (h2 : m + n ≤ 13) : Sm y m ≤ Sm y (m + n) := by
  induction n with
  | zero => simp
  | succ n ih =>
    have h3 := Sm_succ (y := y) (m := m + n) (by omega) (by omega)
    have h4 := lenM_in y (m + n)
    have := ih (by omega)
    rw [show m + ((n + 1 : Nat) : Int) = m + n + 1 by omega, h3]
    omega
theorem Sm_le {y m n : Int} (h1 : 1 ≤ m) (h2 : m ≤ n) (h3 : n ≤ 13) : Sm y m ≤ Sm y n := by
  have := Sm_lt (y := y) (n - m).toNat h1 (by omega)
  rwa [show m + ((n - m).toNat : Int) = n by omega] at this
theorem MonthHas.year {y m d : Int} (h : MonthHas y m d) : YearHas y d := by
  have h1 := Sm_le (y := y) (m := 1) (n := m) (by omega) h.m0 (by have := h.m1; omega)
  have h2 := Sm_le (y := y) (m := m + 1) (n := 13) (by have := h.m0; omega) (by have := h.m1; omega) (by omega)
  rw [Sm_one] at h1
  rw [Sm_end] at h2
  exact ⟨by have := h.lo; omega, by have := h.hi; omega⟩
theorem month_exists {y d : Int} (h : YearHas y d) : ∃ m, MonthHas y m d := by
  have key : ∀ n : Nat, n ≤ 12 → d < Sm y (n + 1) → ∃ m, MonthHas y m d := by
    intro n
    induction n with
    | zero => intro _ h2; rw [show ((0 : Nat) : Int) + 1 = 1 by omega, Sm_one] at h2; have := h.1; omega
    | succ n ih =>
      intro hn h2
      by_cases e : d < Sm y (n + 1)
      · exact ih (by omega) e
      · exact ⟨((n + 1 : Nat) : Int), by omega, by omega, by rw [show ((n + 1 : Nat) : Int) = n + 1 by omega]; omega, h2⟩
  refine key 12 (by omega) ?_
  rw [show ((12 : Nat) : Int) + 1 = 13 by omega, Sm_end]
  exact h.2
theorem month_uniq {y m n d : Int} (h : MonthHas y m d) (g : MonthHas y n d) : m = n := by
  by_cases e : m < n
  · have := Sm_le (y := y) (m := m + 1) (n := n) (by have := h.m0; omega) (by omega) (by have := g.m1; omega)
    have := h.hi; have := g.lo; omega
  · by_cases e2 : n < m
    · have := Sm_le (y := y) (m := n + 1) (n := m) (by have := g.m0; omega) (by omega) (by have := h.m1; omega)
      have := g.hi; have := h.lo; omega
    · omega
/-- the error of a month -/
def chkM (y m : Int) : Int := if isY y then (if 1 ≤ m ∧ m ≤ 12 then 0 else 7) else 6
theorem chkM_iff (y m : Int) : chkM y m = 0 ↔ isY y = true ∧ 1 ≤ m ∧ m ≤ 12 := by
  unfold chkM
  by_cases h : isY y = true
  · rw [if_pos h]
    by_cases g : 1 ≤ m ∧ m ≤ 12
    · rw [if_pos g]; exact ⟨fun _ => ⟨h, g⟩, fun _ => rfl⟩
    · rw [if_neg g]; exact ⟨fun e => absurd e (by decide), fun e => absurd e.2 g⟩
  · rw [if_neg h]; exact ⟨fun e => absurd e (by decide), fun e => absurd e.1 h⟩
/-- the index of a month, and the month of an index -/
def ixM (y m : Int) : Int := 12 * y + m - 1
def yrI (i : Int) : Int := i / 12
def moI (i : Int) : Int := i % 12 + 1
theorem moI_in (i : Int) : 1 ≤ moI i ∧ moI i ≤ 12 := by unfold moI; omega
theorem ix_of (i : Int) : ixM (yrI i) (moI i) = i := by unfold ixM yrI moI; omega
theorem of_ix {y m : Int} (h1 : 1 ≤ m) (h2 : m ≤ 12) : yrI (ixM y m) = y ∧ moI (ixM y m) = m := by unfold ixM yrI moI; omega
/-- the month one on begins the day after -/
theorem Sm_next {y m : Int} (h1 : 1 ≤ m) (h2 : m ≤ 12) : Sm (yrI (ixM y m + 1)) (moI (ixM y m + 1)) = Sm y m + lenM y m := by
  rw [← Sm_succ h1 h2]
  by_cases e : m = 12
  · subst e
    rw [show yrI (ixM y 12 + 1) = y + 1 by unfold yrI ixM; omega, show moI (ixM y 12 + 1) = 1 by unfold moI ixM; omega, Sm_one, show (12 : Int) + 1 = 13 by omega, Sm_end]
  · rw [show yrI (ixM y m + 1) = y by unfold yrI ixM; omega, show moI (ixM y m + 1) = m + 1 by unfold moI ixM; omega]
end Go.Proofs.YtoafigehcgledaaGreatDoor
namespace Go.Proofs.YtoafigehcgledaaGreatDoor

/-- the error of a civil day -/
def chkC (y m d : Int) : Int := if chkM y m = 0 then (if 1 ≤ d ∧ d ≤ lenM y m then 0 else 8) else chkM y m
/-- the day of a civil day -/
def Dc (y m d : Int) : Int := Sm y m + (d - 1)
structure Right (y m d : Int) : Prop where
  yr : isY y = true
  m0 : 1 ≤ m
  m1 : m ≤ 12
  d0 : 1 ≤ d
  d1 : d ≤ lenM y m
theorem chkC_iff (y m d : Int) : chkC y m d = 0 ↔ Right y m d := by
  unfold chkC
  by_cases h : chkM y m = 0
  · rw [if_pos h]
    have hm := (chkM_iff y m).1 h
    by_cases g : 1 ≤ d ∧ d ≤ lenM y m
    · rw [if_pos g]; exact ⟨fun _ => ⟨hm.1, hm.2.1, hm.2.2, g.1, g.2⟩, fun _ => rfl⟩
    · rw [if_neg g]; exact ⟨fun e => absurd e (by decide), fun e => absurd ⟨e.d0, e.d1⟩ g⟩
  · rw [if_neg h]; exact ⟨fun e => absurd e h, fun e => absurd ((chkM_iff y m).2 ⟨e.yr, e.m0, e.m1⟩) h⟩
theorem Right.chkM {y m d : Int} (h : Right y m d) : chkM y m = 0 := (chkM_iff y m).2 ⟨h.yr, h.m0, h.m1⟩
theorem Right.has {y m d : Int} (h : Right y m d) : MonthHas y m (Dc y m d) := by
  have := Sm_succ (y := y) h.m0 h.m1
  have := h.d0
  have := h.d1
  exact ⟨h.m0, h.m1, by unfold Dc; omega, by unfold Dc; omega⟩
/-- the civil day of a day of the calendar -/
theorem right_of {y m n : Int} (hy : isY y = true) (h : MonthHas y m n) : Right y m (n - Sm y m + 1) ∧ Dc y m (n - Sm y m + 1) = n := by
  have h1 := Sm_succ (y := y) h.m0 h.m1
  have h2 := h.lo
  have h3 := h.hi
  exact ⟨⟨hy, h.m0, h.m1, by omega, by omega⟩, by unfold Dc; omega⟩
/-- the weekday -/
def wday (n : Int) : Int := (n + 5) % 7
theorem wday_in (n : Int) : 0 ≤ wday n ∧ wday n < 7 := by unfold wday; omega
theorem wday_succ (n : Int) : wday (n + 1) = (wday n + 1) % 7 := by unfold wday; omega
/-- the order -/
def cmpI (a b : Int) : Int := if a < b then -1 else if b < a then 1 else 0
def cmpC (a b c x y z : Int) : Int := if cmpI a x = 0 then (if cmpI b y = 0 then cmpI c z else cmpI b y) else cmpI a x
theorem cmpI_cases (a b : Int) : (a < b ∧ cmpI a b = -1) ∨ (a = b ∧ cmpI a b = 0) ∨ (b < a ∧ cmpI a b = 1) := by
  unfold cmpI
  by_cases h : a < b
  · left; exact ⟨h, if_pos h⟩
  · rw [if_neg h]
    by_cases g : b < a
    · right; right; exact ⟨g, if_pos g⟩
    · right; left; exact ⟨by omega, if_neg g⟩
theorem cmpI_swap (a b : Int) : cmpI b a = -cmpI a b := by
  rcases cmpI_cases a b with h | h | h <;> rcases cmpI_cases b a with g | g | g <;> first | (exfalso; omega) | simp [h.2, g.2]
theorem cmpC_swap (a b c x y z : Int) : cmpC x y z a b c = -cmpC a b c x y z := by
  unfold cmpC
  rw [cmpI_swap a x, cmpI_swap b y, cmpI_swap c z]
  rcases cmpI_cases a x with h | h | h <;> rcases cmpI_cases b y with i | i | i <;> rcases cmpI_cases c z with k | k | k <;> simp [h.2, i.2, k.2]
theorem cmpC_zero (a b c x y z : Int) : cmpC a b c x y z = 0 ↔ a = x ∧ b = y ∧ c = z := by
  unfold cmpC
  rcases cmpI_cases a x with h | h | h <;> rcases cmpI_cases b y with i | i | i <;> rcases cmpI_cases c z with k | k | k <;> simp only [h.2, i.2, k.2] <;> simp <;> omega
theorem cmpC_le (a b c x y z : Int) : cmpC a b c x y z ≤ 0 ↔ a < x ∨ a = x ∧ (b < y ∨ b = y ∧ c ≤ z) := by
  unfold cmpC
  rcases cmpI_cases a x with h | h | h <;> rcases cmpI_cases b y with i | i | i <;> rcases cmpI_cases c z with k | k | k <;> simp only [h.2, i.2, k.2] <;> simp <;> omega
theorem cmpC_one (a b c x y z : Int) : (cmpC a b c x y z = -1 ∨ cmpC a b c x y z = 0 ∨ cmpC a b c x y z = 1) := by
  unfold cmpC
  rcases cmpI_cases a x with h | h | h <;> rcases cmpI_cases b y with i | i | i <;> rcases cmpI_cases c z with k | k | k <;> simp [h.2, i.2, k.2]
theorem cmpC_trans (a b c x y z u v w : Int) (h1 : cmpC a b c x y z ≤ 0) (h2 : cmpC x y z u v w ≤ 0) : cmpC a b c u v w ≤ 0 := by
  rw [cmpC_le] at *
  omega
/-- the order of days is that of civil days -/
theorem Dc_lt {a b c x y z : Int} (h : Right a b c) (g : Right x y z) (hl : a < x ∨ a = x ∧ (b < y ∨ b = y ∧ c < z)) : Dc a b c < Dc x y z := by
  have h1 := h.has
  have g1 := g.has
  rcases hl with e | ⟨rfl, e | ⟨rfl, e⟩⟩
  · have hy := h1.year
    have gy := g1.year
    have := Sd_le (show a + 1 ≤ x by omega)
    have := hy.2
    have := gy.1
    omega
  · have := Sm_le (y := a) (m := b + 1) (n := y) (by have := h.m0; omega) (by omega) (by have := g.m1; omega)
    have := h1.hi
    have := g1.lo
    omega
  · unfold Dc; omega
theorem cmp_days {a b c x y z : Int} (h : Right a b c) (g : Right x y z) : cmpC a b c x y z = cmpI (Dc a b c) (Dc x y z) := by
  have hz := cmpC_zero a b c x y z
  have hl := cmpC_le a b c x y z
  have ho := cmpC_one a b c x y z
  by_cases e1 : a < x ∨ a = x ∧ (b < y ∨ b = y ∧ c < z)
  · have := Dc_lt h g e1
    have hs : cmpI (Dc a b c) (Dc x y z) = -1 := by unfold cmpI; rw [if_pos this]
    rw [hs]
    have h1 := hl.2 (by omega)
    have h2 : ¬ cmpC a b c x y z = 0 := fun e => by have := hz.1 e; omega
    omega
  · by_cases e2 : x < a ∨ x = a ∧ (y < b ∨ y = b ∧ z < c)
    · have := Dc_lt g h e2
      have hs : cmpI (Dc a b c) (Dc x y z) = 1 := by unfold cmpI; rw [if_neg (by omega), if_pos this]
      rw [hs]
      have h1 : ¬ cmpC a b c x y z ≤ 0 := fun e => by have := hl.1 e; omega
      omega
    · obtain ⟨rfl, rfl, rfl⟩ : a = x ∧ b = y ∧ c = z := by omega
      rw [hz.2 ⟨rfl, rfl, rfl⟩]
      unfold cmpI; rw [if_neg (by omega), if_neg (by omega)]
/-- the ordinal -/
def ordC (y m d : Int) : Int := Dc y m d - Sd y + 1
theorem ord_in {y m d : Int} (h : Right y m d) : 1 ≤ ordC y m d ∧ ordC y m d ≤ lenI y := by
  have h1 := h.has.year
  have h2 := Sd_succ y
  unfold ordC
  have := h1.1
  have := h1.2
  omega
theorem Right.i64 {y m d : Int} (h : Right y m d) : (-10000000000000000 ≤ y ∧ y ≤ 10000000000000000) ∧ (1 ≤ m ∧ m ≤ 12) ∧ (1 ≤ d ∧ d ≤ 31) := by
  have h1 := (isY_iff y).1 h.yr
  have h2 := lenM_in y m
  have := h.m0
  have := h.m1
  have := h.d0
  have := h.d1
  omega
theorem right_ex {n y : Int} (hyd : YearHas y n) (hy : isY y = true) : ∃ m d, Right y m d ∧ Dc y m d = n ∧ MonthHas y m n ∧ n - Sm y m + 1 = d := by
  obtain ⟨m, hm⟩ := month_exists hyd
  have h := right_of hy hm
  exact ⟨m, n - Sm y m + 1, h.1, h.2, hm, rfl⟩
end Go.Proofs.YtoafigehcgledaaGreatDoor
namespace Go.Proofs.YtoafigehcgledaaGreatDoor

def d8 (n : Nat) : UInt8 := UInt8.ofNat (48 + n)
theorem d8_nat {n : Nat} (h : n < 10) : (d8 n).toNat = 48 + n := by unfold d8; rw [UInt8.toNat_ofNat']; omega
theorem d8_dig {n : Nat} (h : n < 10) : dig (d8 n) := by unfold dig; rw [d8_nat h]; omega
theorem d8_of {c : UInt8} (h : dig c) : d8 (c.toNat - 48) = c := by
  apply UInt8.toNat_inj.1
  unfold dig at h
  rw [d8_nat (by omega)]; omega
/-- k places of n -/
def fx : Nat → Nat → List UInt8
  | 0, _ => []
  | k + 1, n => fx k (n / 10) ++ [d8 (n % 10)]
theorem fx_nil (n : Nat) : fx 0 n = [] := rfl
theorem valM_nil (a : Nat) : valM a [] = a := rfl
theorem fx_len (k : Nat) : ∀ n, (fx k n).length = k := by
  induction k with
  | zero => intro n; rfl
  | succ k ih => intro n; unfold fx; rw [List.length_append, ih]; rfl
theorem fx_dig (k : Nat) : ∀ n, ∀ c ∈ fx k n, dig c := by
  induction k with
  | zero => intro n c h; simp [fx] at h
  | succ k ih =>
    intro n c h
    unfold fx at h
    rw [List.mem_append] at h
    rcases h with h | h
    · exact ih _ c h
    · simp at h; subst h; exact d8_dig (by omega)
theorem fx_zero (k : Nat) : fx k 0 = List.replicate k 48 := by
  induction k with
  | zero => rfl
  | succ k ih => unfold fx; rw [Nat.zero_div, ih, List.replicate_succ']; rfl
theorem valM_app (a b : List UInt8) : ∀ acc, valM acc (a ++ b) = valM (valM acc a) b := by
  induction a with
  | nil => intro acc; rfl
  | cons c r ih => intro acc; exact ih _
theorem valM_snoc (a : List UInt8) (c : UInt8) (acc : Nat) : valM acc (a ++ [c]) = valM acc a * 10 + (c.toNat - 48) := by rw [valM_app]; rfl
theorem fx_val (k : Nat) : ∀ n, valM 0 (fx k n) = n % 10 ^ k := by
  induction k with
  | zero => intro n; rw [Nat.pow_zero, Nat.mod_one]; rfl
  | succ k ih =>
    intro n
    unfold fx
    have h1 := d8_nat (n := n % 10) (by omega)
    have h2 : n % 10 ^ (k + 1) = n % 10 + 10 * (n / 10 % 10 ^ k) := by rw [Nat.pow_succ, Nat.mul_comm (10 ^ k) 10, Nat.mod_mul]
    rw [valM_snoc, ih, h1, h2]
    generalize n / 10 % 10 ^ k = q
    omega
theorem val_fx (m : List UInt8) (h : ∀ c ∈ m, dig c) : fx m.length (valM 0 m.reverse) = m.reverse ∧ valM 0 m.reverse < 10 ^ m.length := by
  induction m with
  | nil => rw [List.reverse_nil, List.length_nil, fx_nil, valM_nil]; exact ⟨rfl, by decide⟩
  | cons c r ih =>
    have hc := h c (by simp)
    have ⟨i1, i2⟩ := ih (fun x hx => h x (by simp [hx]))
    rw [List.reverse_cons, valM_snoc, List.length_cons]
    have hd := hc
    unfold dig at hc
    constructor
    · unfold fx
      rw [show (valM 0 r.reverse * 10 + (c.toNat - 48)) / 10 = valM 0 r.reverse by omega, show (valM 0 r.reverse * 10 + (c.toNat - 48)) % 10 = c.toNat - 48 by omega, i1, d8_of hd]
    · rw [Nat.pow_succ]; omega
theorem val_fx' {l : List UInt8} (h : ∀ c ∈ l, dig c) : fx l.length (valM 0 l) = l ∧ valM 0 l < 10 ^ l.length := by
  have := val_fx l.reverse (fun c hc => h c (by simpa using hc))
  simpa using this
theorem dec_pad (k : Nat) : ∀ n, n < 10 ^ (k + 1) → List.replicate (k + 1 - (Lib.decDigits n).length) 48 ++ Lib.decDigits n = fx (k + 1) n ∧ (Lib.decDigits n).length ≤ k + 1 := by
  induction k with
  | zero =>
    intro n h
    rw [Lib.decDigits, dif_pos (by simpa using h)]
    refine ⟨?_, by simp⟩
    simp [fx, d8]
    rw [Nat.mod_eq_of_lt (by simpa using h)]
  | succ k ih =>
    intro n h
    by_cases g : n < 10
    · rw [Lib.decDigits, dif_pos g]
      refine ⟨?_, by simp⟩
      rw [show k + 1 + 1 - [UInt8.ofNat (48 + n)].length = k + 1 by simp]
      rw [fx, Nat.div_eq_of_lt g, fx_zero, Nat.mod_eq_of_lt g]; rfl
    · have h2 := ih (n / 10) (by rw [Nat.pow_succ] at h; omega)
      rw [Lib.decDigits, dif_neg g]
      refine ⟨?_, by simp; omega⟩
      rw [List.length_append, List.length_singleton, show k + 1 + 1 - ((Lib.decDigits (n / 10)).length + 1) = k + 1 - (Lib.decDigits (n / 10)).length by omega, ← List.append_assoc, h2.1, fx.eq_2 n (k + 1)]; rfl
theorem dec_len (k : Nat) : ∀ n, 10 ^ k ≤ n → n < 10 ^ (k + 1) → (Lib.decDigits n).length = k + 1 := by
  induction k with
  | zero => intro n _ h; rw [Lib.decDigits, dif_pos (by simpa using h)]; rfl
  | succ k ih =>
    intro n h1 h2
    have hp : 10 ≤ 10 ^ (k + 1) := by rw [Nat.pow_succ]; have := Nat.pow_pos (n := k) (show 0 < 10 by omega); omega
    rw [Lib.decDigits, dif_neg (by omega), List.length_append, ih (n / 10) (by rw [Nat.pow_succ] at h1; omega) (by rw [Nat.pow_succ] at h2; omega)]; rfl
/-- the year's digits, at least four -/
def padY (n : Nat) : List UInt8 := List.replicate (4 - (Lib.decDigits n).length) 48 ++ Lib.decDigits n
theorem pad_four {n : Nat} (h : n < 10000) : padY n = fx 4 n := (dec_pad 3 n (by simpa using h)).1
theorem pad_big {n k : Nat} (hk : 4 ≤ k) (h1 : 10 ^ k ≤ n) (h2 : n < 10 ^ (k + 1)) : padY n = fx (k + 1) n := by
  have hl := dec_len k n h1 h2
  have h := (dec_pad k n h2).1
  unfold padY
  rw [hl] at h ⊢
  rw [show 4 - (k + 1) = 0 by omega]
  rw [Nat.sub_self] at h
  exact h
theorem pow_at {n : Nat} (h : 10000 ≤ n) : ∃ k, 4 ≤ k ∧ 10 ^ k ≤ n ∧ n < 10 ^ (k + 1) := by
  have hex : ∀ j, n < 10 ^ (j + 4) → ∃ k, 4 ≤ k ∧ 10 ^ k ≤ n ∧ n < 10 ^ (k + 1) := by
    intro j
    induction j with
    | zero => intro g; simp at g; omega
    | succ j ih =>
      intro g
      by_cases c : n < 10 ^ (j + 4)
      · exact ih c
      · exact ⟨j + 4, by omega, by omega, by rw [show j + 4 + 1 = j + 1 + 4 by omega]; exact g⟩
  exact hex n (Nat.lt_of_lt_of_le (Nat.lt_pow_self (by omega)) (Nat.pow_le_pow_right (by omega) (by omega)))
theorem valM_cons (c : UInt8) (r : List UInt8) : valM 0 (c :: r) = (c.toNat - 48) * 10 ^ r.length + valM 0 r := by
  have gen : ∀ (r : List UInt8) (a : Nat), valM a r = a * 10 ^ r.length + valM 0 r := by
    intro r
    induction r with
    | nil => intro a; rw [valM_nil, valM_nil, List.length_nil, Nat.pow_zero]; omega
    | cons x s ih =>
      intro a
      have e1 : valM a (x :: s) = valM (a * 10 + (x.toNat - 48)) s := rfl
      have e2 : valM 0 (x :: s) = valM (0 * 10 + (x.toNat - 48)) s := rfl
      rw [e1, e2, ih, ih (0 * 10 + _), List.length_cons, Nat.pow_succ, Nat.add_mul, Nat.mul_assoc, Nat.mul_comm 10]
      simp
      omega
  have e : valM 0 (c :: r) = valM (0 * 10 + (c.toNat - 48)) r := rfl
  rw [e, gen]; simp
/-- years as texts and back -/
theorem pad_of {l : List UInt8} (h : ∀ c ∈ l, dig c) (h4 : 4 ≤ l.length) (hl : 4 < l.length → ¬ l.getD 0 0 = 48) : padY (valM 0 l) = l := by
  have ⟨e, hb⟩ := val_fx' h
  by_cases g : l.length = 4
  · rw [g] at e hb
    rw [pad_four (by simpa using hb)]; exact e
  · match l, h, h4, hl, e, hb, g with
    | c :: r, h, h4, hl, e, hb, g =>
      have hl' : ¬ c = 48 := by have := hl (by omega); simpa using this
      have hc := h c (by simp)
      have hr : ∀ x ∈ r, dig x := fun x hx => h x (by simp [hx])
      have hv := valM_cons c r
      have hc2 : ¬ c.toNat = 48 := fun e => hl' (UInt8.toNat_inj.1 e)
      unfold dig at hc
      have hlo : 10 ^ r.length ≤ valM 0 (c :: r) := by
        rw [hv]
        have : 1 * 10 ^ r.length ≤ (c.toNat - 48) * 10 ^ r.length := Nat.mul_le_mul_right _ (by omega)
        omega
      rw [List.length_cons] at e hb g h4
      rw [pad_big (k := r.length) (by omega) hlo hb]
      exact e
structure PadForm (n : Nat) (l : List UInt8) : Prop where
  ds : ∀ c ∈ l, dig c
  four : 4 ≤ l.length
  lead : 4 < l.length → ¬ l.getD 0 0 = 48
  val : valM 0 l = n
theorem pad_form (n : Nat) : PadForm n (padY n) := by
  by_cases h : n < 10000
  · rw [pad_four h]
    exact ⟨fx_dig 4 n, by rw [fx_len]; exact Nat.le_refl _, fun g => by rw [fx_len] at g; omega, by rw [fx_val]; exact Nat.mod_eq_of_lt (by simpa using h)⟩
  · obtain ⟨k, hk, h1, h2⟩ := pow_at (by omega : 10000 ≤ n)
    rw [pad_big hk h1 h2]
    have hd := fx_dig (k + 1) n
    have hv : valM 0 (fx (k + 1) n) = n := by rw [fx_val, Nat.mod_eq_of_lt h2]
    refine ⟨hd, by rw [fx_len]; omega, fun _ hz => ?_, hv⟩
    have hl := fx_len (k + 1) n
    match fx (k + 1) n, hd, hv, hz, hl with
    | c :: r, hd, hv, hz, hl =>
      have hc : c = 48 := by simpa using hz
      have hr : ∀ x ∈ r, dig x := fun x hx => hd x (by simp [hx])
      rw [valM_cons c r, hc] at hv
      have := (val_fx' hr).2
      rw [List.length_cons] at hl
      have hl2 : r.length = k := by omega
      rw [hl2] at this
      simp at hv
      omega
theorem pad_len {n : Nat} (h : n ≤ 10000000000000000) : (padY n).length ≤ 17 := by
  have h2 := (dec_pad 16 n (by omega)).2
  unfold padY
  rw [List.length_append, List.length_replicate]
  omega
/-- the text of a civil day -/
def textC (y m d : Int) : List UInt8 := (if y < 0 then [45] else []) ++ padY y.natAbs ++ [45] ++ fx 2 m.toNat ++ [45] ++ fx 2 d.toNat
/-- the form of a text -/
structure CvForm (l : List UInt8) (neg : Bool) (yr : List UInt8) (a b c d : UInt8) : Prop where
  eq : l = (if neg then [45] else []) ++ yr ++ [45, a, b, 45, c, d]
  ds : ∀ x ∈ yr, dig x
  four : 4 ≤ yr.length
  lead : 4 < yr.length → ¬ yr.getD 0 0 = 48
  nz : ¬ (neg = true ∧ yr = [48, 48, 48, 48])
  da : dig a
  db : dig b
  dc : dig c
  dd : dig d
def yv (neg : Bool) (yr : List UInt8) : Int := if neg then -(valM 0 yr : Int) else valM 0 yr
def tv (a b : UInt8) : Int := 10 * ((a.toNat : Int) - 48) + ((b.toNat : Int) - 48)
theorem fx_two {a b : UInt8} (ha : dig a) (hb : dig b) : fx 2 (tv a b).toNat = [a, b] := by
  have ha2 := ha
  have hb2 := hb
  unfold dig at ha hb
  have e : (tv a b).toNat = (a.toNat - 48) * 10 + (b.toNat - 48) := by unfold tv; omega
  rw [e]
  show ([] ++ [d8 (((a.toNat - 48) * 10 + (b.toNat - 48)) / 10 % 10)]) ++ [d8 (((a.toNat - 48) * 10 + (b.toNat - 48)) % 10)] = [a, b]
  rw [show ((a.toNat - 48) * 10 + (b.toNat - 48)) / 10 % 10 = a.toNat - 48 by omega, show ((a.toNat - 48) * 10 + (b.toNat - 48)) % 10 = b.toNat - 48 by omega, d8_of ha2, d8_of hb2]; rfl
theorem tv_in {a b : UInt8} (ha : dig a) (hb : dig b) : 0 ≤ tv a b ∧ tv a b ≤ 99 := by unfold dig at ha hb; unfold tv; omega
theorem zero_four {yr : List UInt8} (h : ∀ x ∈ yr, dig x) (h4 : 4 ≤ yr.length) (hl : 4 < yr.length → ¬ yr.getD 0 0 = 48) (hz : valM 0 yr = 0) : yr = [48, 48, 48, 48] := by
  have := pad_of h h4 hl
  rw [hz] at this
  rw [← this, pad_four (by decide)]; rfl
/-- what was read has this text -/
theorem form_text {l : List UInt8} {neg : Bool} {yr : List UInt8} {a b c d : UInt8} (h : CvForm l neg yr a b c d) : textC (yv neg yr) (tv a b) (tv c d) = l := by
  unfold textC
  rw [fx_two h.da h.db, fx_two h.dc h.dd, h.eq]
  have hp := pad_of h.ds h.four h.lead
  have hn : (yv neg yr).natAbs = valM 0 yr := by unfold yv; cases neg <;> simp
  have hs : (if yv neg yr < 0 then [45] else ([] : List UInt8)) = if neg = true then [45] else [] := by
    cases neg
    · rw [if_neg (by unfold yv; simp)]; rfl
    · rw [if_pos (by
        unfold yv
        have : ¬ valM 0 yr = 0 := fun hz => h.nz ⟨rfl, zero_four h.ds h.four h.lead hz⟩
        simp; omega)]; rfl
  rw [hn, hp, hs]
  simp
/-- a civil day's text has the form -/
theorem text_form {y m d : Int} (h : Right y m d) : ∃ neg yr a b c e, CvForm (textC y m d) neg yr a b c e ∧ yv neg yr = y ∧ tv a b = m ∧ tv c e = d := by
  have hl := lenM_in y m
  have h1 := h.m0
  have h2 := h.m1
  have h3 := h.d0
  have h4 := h.d1
  have two : ∀ z : Int, 0 ≤ z → z ≤ 99 → ∃ a b, fx 2 z.toNat = [a, b] ∧ dig a ∧ dig b ∧ tv a b = z := by
    intro z z0 z1
    refine ⟨d8 (z.toNat / 10 % 10), d8 (z.toNat % 10), rfl, d8_dig (by omega), d8_dig (by omega), ?_⟩
    unfold tv
    rw [d8_nat (by omega), d8_nat (by omega)]
    omega
  obtain ⟨a, b, e1, da, db, v1⟩ := two m (by omega) (by omega)
  obtain ⟨c, e, e2, dc, de, v2⟩ := two d (by omega) (by omega)
  have hp := pad_form y.natAbs
  refine ⟨decide (y < 0), padY y.natAbs, a, b, c, e, ⟨?_, hp.ds, hp.four, hp.lead, ?_, da, db, dc, de⟩, ?_, v1, v2⟩
  · unfold textC; rw [e1, e2]; by_cases g : y < 0 <;> simp [g]
  · rintro ⟨g, hz⟩
    have hv := hp.val
    rw [hz] at hv
    have : valM 0 [48, 48, 48, 48] = 0 := by decide
    simp at g
    omega
  · unfold yv
    rw [hp.val]
    by_cases g : y < 0
    · simp [g]; omega
    · simp [g]; omega
theorem text_len {y m d : Int} (h : Right y m d) : (textC y m d).length ≤ 24 := by
  have hy := (isY_iff y).1 h.yr
  have := pad_len (n := y.natAbs) (by omega)
  unfold textC
  simp only [List.length_append, fx_len, List.length_singleton]
  split <;> simp <;> omega
end Go.Proofs.YtoafigehcgledaaGreatDoor
