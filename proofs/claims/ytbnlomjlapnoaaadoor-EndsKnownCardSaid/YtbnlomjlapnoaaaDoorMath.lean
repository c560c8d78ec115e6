/-
  DERIVED. PLAIN MATHEMATICS of layer 1 (ints): quotients that round down, and remainders. Nothing of the program.
-/
namespace Go.Proofs.YtbnlomjlapnoaaaDoor

def differB (a b : Int) : Bool := decide (a < 0) != decide (b < 0)
theorem differB_true {a b : Int} (h : (a < 0 ∧ 0 ≤ b) ∨ (0 ≤ a ∧ b < 0)) : differB a b = true := by
  unfold differB
  rcases h with ⟨h, g⟩ | ⟨h, g⟩
  · rw [decide_eq_true h, decide_eq_false (by omega)]; rfl
  · rw [decide_eq_false (by omega), decide_eq_true g]; rfl
theorem differB_false {a b : Int} (h : (a < 0 ∧ b < 0) ∨ (0 ≤ a ∧ 0 ≤ b)) : differB a b = false := by
  unfold differB
  rcases h with ⟨h, g⟩ | ⟨h, g⟩
  · rw [decide_eq_true h, decide_eq_true g]; rfl
  · rw [decide_eq_false (by omega), decide_eq_false (by omega)]; rfl

theorem of_differB {a b : Int} (h : differB a b = true) : (a < 0 ∧ 0 ≤ b) ∨ (0 ≤ a ∧ b < 0) := by
  by_cases c : (a < 0 ∧ b < 0) ∨ (0 ≤ a ∧ 0 ≤ b)
  · rw [differB_false c] at h; cases h
  · omega

theorem tmod_sign (a b : Int) : (0 ≤ a → 0 ≤ a.tmod b) ∧ (a ≤ 0 → a.tmod b ≤ 0) := by
  constructor
  · intro h; exact Int.tmod_nonneg b h
  · intro h
    have := Int.tmod_nonneg b (show 0 ≤ -a by omega)
    rw [Int.neg_tmod] at this; omega
theorem tmod_abs (a b : Int) (h : ¬ b = 0) : (0 < b → -b < a.tmod b ∧ a.tmod b < b) ∧ (b < 0 → b < a.tmod b ∧ a.tmod b < -b) := by
  have h1 := Int.natAbs_tmod a b
  have h2 := Nat.mod_lt a.natAbs (show 0 < b.natAbs by omega)
  constructor <;> intro <;> omega
/-- the remainder, and the quotient that rounds down -/
def fmd (a b : Int) : Int := if ¬ a.tmod b = 0 ∧ differB (a.tmod b) b = true then a.tmod b + b else a.tmod b
def fdv (a b : Int) : Int := if ¬ a.tmod b = 0 ∧ differB a b = true then a.tdiv b - 1 else a.tdiv b
theorem differB_tmod (a b : Int) (h : ¬ a.tmod b = 0) : differB (a.tmod b) b = differB a b := by
  have := tmod_sign a b
  unfold differB
  by_cases g : a < 0
  · rw [decide_eq_true g, decide_eq_true (show a.tmod b < 0 by omega)]
  · rw [decide_eq_false g, decide_eq_false (show ¬ a.tmod b < 0 by omega)]
theorem fdv_fmd (a b : Int) : fdv a b * b + fmd a b = a := by
  have h := Int.mul_tdiv_add_tmod a b
  unfold fdv fmd
  by_cases g : a.tmod b = 0
  · rw [if_neg (by simp [g]), if_neg (by simp [g]), Int.mul_comm]; exact h
  · rw [differB_tmod a b g]
    by_cases d : differB a b = true
    · rw [if_pos ⟨g, d⟩, if_pos ⟨g, d⟩, Int.sub_mul, Int.mul_comm]; omega
    · rw [if_neg (by simp [d]), if_neg (by simp [d]), Int.mul_comm]; exact h
theorem fmd_pos (a b : Int) (h : 0 < b) : 0 ≤ fmd a b ∧ fmd a b < b := by
  have h1 := (tmod_abs a b (by omega)).1 h
  unfold fmd
  by_cases g : a.tmod b < 0
  · rw [if_pos ⟨by omega, differB_true (by omega)⟩]; omega
  · rw [if_neg (fun c => by rw [differB_false (by omega)] at c; exact absurd c.2 (by decide))]; omega
theorem fmd_neg (a b : Int) (h : b < 0) : fmd a b ≤ 0 ∧ b < fmd a b := by
  have h1 := (tmod_abs a b (by omega)).2 h
  unfold fmd
  by_cases g : 0 < a.tmod b
  · rw [if_pos ⟨by omega, differB_true (by omega)⟩]; omega
  · by_cases g0 : a.tmod b = 0
    · rw [if_neg (by simp [g0])]; omega
    · rw [if_neg (fun c => by rw [differB_false (by omega)] at c; exact absurd c.2 (by decide))]; omega
theorem fdv_floor (a b : Int) (h : 0 < b) : fdv a b = a / b := by
  have h1 := fdv_fmd a b
  have h2 := fmd_pos a b h
  have : (fdv a b * b + fmd a b) / b = fdv a b := by
    rw [Int.add_comm, Int.add_mul_ediv_right _ _ (by omega), Int.ediv_eq_zero_of_lt h2.1 h2.2]; omega
  rw [← this, h1]
theorem fdv_mono (a c b : Int) (h : 0 < b) (g : a ≤ c) : fdv a b ≤ fdv c b := by
  rw [fdv_floor a b h, fdv_floor c b h]; exact Int.ediv_le_ediv h g
theorem tdiv_bound (a b : Int) (h0 : -9223372036854775808 ≤ a) (h1 : a ≤ 9223372036854775807) (h : ¬ (a = -9223372036854775808 ∧ b = -1)) : -9223372036854775808 ≤ a.tdiv b ∧ a.tdiv b ≤ 9223372036854775807 := by
  have h2 : (a.tdiv b).natAbs = a.natAbs / b.natAbs := Int.natAbs_tdiv a b
  have h3 : a.natAbs / b.natAbs ≤ a.natAbs := Nat.div_le_self _ _
  by_cases e : a = -9223372036854775808
  · have hb : ¬ b = -1 := fun g => h ⟨e, g⟩
    by_cases g : b = 1
    · subst g; rw [Int.tdiv_one]; omega
    · have : a.natAbs / b.natAbs ≤ a.natAbs / 2 ∨ b = 0 := by
        by_cases z : b = 0
        · exact .inr z
        · exact .inl (Nat.div_le_div_left (by omega) (by omega))
      rcases this with g | g
      · omega
      · subst g; rw [Int.tdiv_zero]; omega
  · omega
theorem tdiv_less (a b : Int) (h0 : -9223372036854775808 ≤ a) (h1 : a ≤ 9223372036854775807) (h : ¬ a.tmod b = 0) : -4611686018427387904 ≤ a.tdiv b ∧ a.tdiv b ≤ 4611686018427387904 := by
  have h2 : (a.tdiv b).natAbs = a.natAbs / b.natAbs := Int.natAbs_tdiv a b
  have g1 : ¬ b = 1 := fun g => h (by rw [g, Int.tmod_one])
  have g2 : ¬ b = -1 := fun g => h (by rw [g, Int.tmod_neg, Int.tmod_one])
  by_cases z : b = 0
  · subst z; rw [Int.tdiv_zero]; omega
  · have : a.natAbs / b.natAbs ≤ a.natAbs / 2 := Nat.div_le_div_left (by omega) (by omega)
    omega
theorem fdv_bound (a b : Int) (h0 : -9223372036854775808 ≤ a) (h1 : a ≤ 9223372036854775807) (h : ¬ (a = -9223372036854775808 ∧ b = -1)) : -9223372036854775808 ≤ fdv a b ∧ fdv a b ≤ 9223372036854775807 := by
  unfold fdv
  by_cases g : ¬ a.tmod b = 0 ∧ differB a b = true
  · rw [if_pos g]; have := tdiv_less a b h0 h1 g.1; omega
  · rw [if_neg g]; exact tdiv_bound a b h0 h1 h
end Go.Proofs.YtbnlomjlapnoaaaDoor
