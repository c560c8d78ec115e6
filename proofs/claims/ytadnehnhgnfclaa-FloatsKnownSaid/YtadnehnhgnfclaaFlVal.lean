/-
  DERIVED. float64 AS BITS: the words nearest to numbers, whole numbers of words.
-/
import Derived.Test.YtadnehnhgnfclaaFlMath
namespace Go.Proofs.Ytadnehnhgnfclaa
open Ieee

/-- how many of the least magnitudes make one -/
def ex : Nat := 1074
def U : Nat := 2 ^ ex
theorem U_pos : 0 < U := Nat.two_pow_pos ex
def dw (s : Bool) (g : Nat) : Nat := (if s then 9223372036854775808 else 0) + g
theorem word_dw (s : Bool) (g : Nat) : double.word s g = dw s g := by
  have hs : double.signWeight = 9223372036854775808 := by decide
  unfold Format.word dw; rw [hs]; cases s <;> simp
theorem dw_neg {s : Bool} {g : Nat} (h : g < 9223372036854775808) : isNeg (dw s g) = s := by
  unfold isNeg dw; cases s
  · simp; omega
  · simp; omega
theorem dw_rung {s : Bool} {g : Nat} (h : g < 9223372036854775808) : rung (dw s g) = g := by
  unfold rung dw; cases s
  · simp; omega
  · simp; omega

/-- the magnitude at a rung that is given by its parts -/
theorem V_parts (t c : Nat) (h1 : c < 9007199254740992) (h2 : t = 0 ∨ 4503599627370496 ≤ c) : V (t * 4503599627370496 + c) = c * 2 ^ t := by
  by_cases h : 4503599627370496 ≤ c
  · rw [V_high (by omega)]
    have e1 : (t * 4503599627370496 + c) / 4503599627370496 - 1 = t := by omega
    have e2 : 4503599627370496 + (t * 4503599627370496 + c) % 4503599627370496 = c := by omega
    rw [e1, e2]
  · have : t = 0 := by omega
    subst this
    rw [V_low (by omega)]; simp
theorem V_parts1 (t c : Nat) (h1 : c < 9007199254740992) (h2 : t = 0 ∨ 4503599627370496 ≤ c) : V (t * 4503599627370496 + c + 1) = (c + 1) * 2 ^ t := by
  by_cases h : c + 1 < 9007199254740992
  · rw [Nat.add_assoc]; exact V_parts t (c + 1) h (by omega)
  · have e : t * 4503599627370496 + c + 1 = (t + 1) * 4503599627370496 + 4503599627370496 := by omega
    rw [e, V_parts (t + 1) _ (by decide) (.inr (Nat.le_refl _)), Nat.pow_succ]
    have : c + 1 = 2 * 4503599627370496 := by omega
    rw [this]
    generalize 2 ^ t = z
    omega
theorem V_rep (t : Nat) : ∀ c, c < 9007199254740992 → ∃ g, V g = c * 2 ^ t := by
  induction t with
  | zero => exact fun c h => ⟨_, V_parts 0 c h (.inl rfl)⟩
  | succ t ih =>
    intro c h
    by_cases h2 : 4503599627370496 ≤ c
    · exact ⟨_, V_parts (t + 1) c h (.inr h2)⟩
    · obtain ⟨g, hg⟩ := ih (2 * c) (by omega)
      exact ⟨g, by rw [hg, Nat.pow_succ]; generalize 2 ^ t = z; rw [Nat.mul_comm 2 c, Nat.mul_assoc, Nat.mul_comm 2 z]⟩
theorem V_inf : V 9218868437227405312 = 2 ^ 2098 := by decide +kernel

theorem cut_even (s : Bool) (n drop : Nat) (hd : drop ≤ n.log2 + 2) : ∃ e, e ≤ 1 ∧ Toward.even.cut s n drop = n / 2 ^ drop + e ∧ (n % 2 ^ drop = 0 → e = 0) := by
  have hg : (1 : Nat) <<< min drop (n.log2 + 2) = 2 ^ drop := by rw [Nat.min_eq_left hd, Nat.shiftLeft_eq, Nat.one_mul]
  unfold Toward.cut
  simp only [hg]
  refine ⟨_, Bool.toNat_le _, rfl, ?_⟩
  intro h0
  have hp : 0 < 2 ^ drop := Nat.two_pow_pos _
  rw [h0]
  generalize 2 ^ drop = z at *
  have h1 : decide (z < 2 * 0) = false := by simp
  have h2 : (z == 2 * 0) = false := by simp; omega
  rw [h1, h2]; rfl

theorem log2_bounds {m : Nat} (h : 0 < m) : 2 ^ m.log2 ≤ m ∧ m < 2 ^ (m.log2 + 1) := ⟨Nat.log2_self_le (by omega), Nat.lt_log2_self⟩

/-- the word nearest to 'm * 2 ^ q' of the least magnitudes -/
theorem nearest_calc (s : Bool) (m q : Nat) (hm : 0 < m) (hb : q + m.log2 ≤ 2097) :
    ∃ g e, e ≤ 1 ∧ double.nearest s m (-1074 + (q : Nat)) = dw s (g + e) ∧ V g ≤ m * 2 ^ q ∧ m * 2 ^ q < V (g + 1) ∧ (V g = m * 2 ^ q → e = 0) ∧ g < 9218868437227405312 := by
  have hl : double.leastPlace = -1074 := by decide
  have hbin : double.binade = 4503599627370496 := by decide
  have hinf : double.infRung = 9218868437227405312 := by decide
  have hfb : double.fractionBits = 52 := by decide
  obtain ⟨hL1, hL2⟩ := log2_bounds hm
  obtain ⟨t, ht⟩ : ∃ t, t = q + m.log2 - 52 := ⟨_, rfl⟩
  have hlast : max ((-1074 + (q : Nat) : Int) + m.log2 - (52 : Nat)) (-1074) = -1074 + (t : Nat) := by omega
  have hkey : ∃ c e, e ≤ 1 ∧ Toward.even.cut s (m <<< (q - t)) (t - q) = c + e ∧ c < 9007199254740992 ∧ (t = 0 ∨ 4503599627370496 ≤ c) ∧ c * 2 ^ t ≤ m * 2 ^ q ∧ m * 2 ^ q < (c + 1) * 2 ^ t ∧ (c * 2 ^ t = m * 2 ^ q → e = 0) := by
    by_cases hc : t ≤ q
    · obtain ⟨e, h1, h2, h3⟩ := cut_even s (m <<< (q - t)) (t - q) (by omega)
      have hz : t - q = 0 := by omega
      rw [hz] at h2 h3
      have h0 : e = 0 := h3 (by simp [Nat.mod_one])
      subst h0
      rw [hz, h2]
      have e1 : m <<< (q - t) = m * 2 ^ (q - t) := Nat.shiftLeft_eq _ _
      have e2 : m * 2 ^ (q - t) * 2 ^ t = m * 2 ^ q := by rw [Nat.mul_assoc, ← Nat.pow_add]; congr 2; omega
      refine ⟨m * 2 ^ (q - t), 0, by omega, by simp [e1], ?_, ?_, by omega, ?_, fun _ => rfl⟩
      · have : m * 2 ^ (q - t) < 2 ^ (m.log2 + 1) * 2 ^ (q - t) := Nat.mul_lt_mul_of_pos_right hL2 (Nat.two_pow_pos _)
        rw [← Nat.pow_add] at this
        have h4 : 2 ^ (m.log2 + 1 + (q - t)) ≤ 2 ^ 53 := Nat.pow_le_pow_right (by decide) (by omega)
        have h5 : (2 : Nat) ^ 53 = 9007199254740992 := by decide
        omega
      · by_cases ht0 : t = 0
        · exact .inl ht0
        · right
          have : 2 ^ m.log2 * 2 ^ (q - t) ≤ m * 2 ^ (q - t) := Nat.mul_le_mul_right _ hL1
          rw [← Nat.pow_add] at this
          have h4 : 2 ^ 52 ≤ 2 ^ (m.log2 + (q - t)) := Nat.pow_le_pow_right (by decide) (by omega)
          have h5 : (2 : Nat) ^ 52 = 4503599627370496 := by decide
          omega
      · rw [Nat.add_mul, e2]
        have := Nat.two_pow_pos t
        omega
    · have hz : q - t = 0 := by omega
      obtain ⟨e, h1, h2, h3⟩ := cut_even s (m <<< (q - t)) (t - q) (by rw [hz]; simp; omega)
      rw [h2]
      have e1 : m <<< (q - t) = m := by rw [hz]; simp
      rw [e1] at h3 ⊢
      have e2 : 2 ^ (t - q) * 2 ^ q = 2 ^ t := by rw [← Nat.pow_add]; congr 1; omega
      have hdm := Nat.div_add_mod m (2 ^ (t - q))
      have hml := Nat.mod_lt m (Nat.two_pow_pos (t - q))
      have e3 : m / 2 ^ (t - q) * 2 ^ t = 2 ^ (t - q) * (m / 2 ^ (t - q)) * 2 ^ q := by rw [← e2, Nat.mul_comm (2 ^ (t - q)) (m / 2 ^ (t - q)), Nat.mul_assoc]
      have hq := Nat.two_pow_pos q
      refine ⟨m / 2 ^ (t - q), e, h1, rfl, ?_, .inr ?_, ?_, ?_, ?_⟩
      · rw [Nat.div_lt_iff_lt_mul (Nat.two_pow_pos _)]
        have h5 : (9007199254740992 : Nat) = 2 ^ 53 := by decide
        rw [h5, ← Nat.pow_add]
        have : 2 ^ (m.log2 + 1) ≤ 2 ^ (53 + (t - q)) := Nat.pow_le_pow_right (by decide) (by omega)
        omega
      · rw [Nat.le_div_iff_mul_le (Nat.two_pow_pos _)]
        have h5 : (4503599627370496 : Nat) = 2 ^ 52 := by decide
        rw [h5, ← Nat.pow_add]
        have : 2 ^ (52 + (t - q)) ≤ 2 ^ m.log2 := Nat.pow_le_pow_right (by decide) (by omega)
        omega
      · rw [e3]; exact Nat.mul_le_mul_right _ (by omega)
      · rw [Nat.add_mul, e3, Nat.one_mul, ← e2, ← Nat.add_mul]
        exact Nat.mul_lt_mul_of_pos_right (by omega) hq
      · intro h
        rw [e3] at h
        have := Nat.eq_of_mul_eq_mul_right hq h
        exact h3 (by omega)
  obtain ⟨c, e, he, hcut, hc1, hc2, hv1, hv2, hv3⟩ := hkey
  have hV := V_parts t c hc1 hc2
  have hV1 := V_parts1 t c hc1 hc2
  have hlt : t * 4503599627370496 + c < 9218868437227405312 := by omega
  refine ⟨t * 4503599627370496 + c, e, he, ?_, by omega, by omega, fun h => hv3 (by omega), hlt⟩
  unfold Format.nearest
  rw [if_neg (by omega), hl, hbin, hinf, hfb, hlast]
  have e1 : ((-1074 + (q : Nat) : Int) - (-1074 + (t : Nat))).toNat = q - t := by omega
  have e2 : ((-1074 + (t : Nat) : Int) - (-1074 + (q : Nat))).toNat = t - q := by omega
  have e3 : ((-1074 + (t : Nat) : Int) - -1074).toNat = t := by omega
  dsimp only
  rw [e1, e2, e3, hcut, word_dw, Nat.min_eq_left (by omega), ← Nat.add_assoc]
/-- a number that a word has is written as that word -/
theorem nearest_exact (s : Bool) (m q g : Nat) (hm : 0 < m) (hb : q + m.log2 ≤ 2097) (hg : V g = m * 2 ^ q) :
    double.nearest s m (-1074 + (q : Nat)) = dw s g ∧ g < 9218868437227405312 := by
  obtain ⟨g', e, he, h1, h2, h3, h4, h5⟩ := nearest_calc s m q hm hb
  have a1 : ¬ g < g' := fun h => by have := V_mono h; omega
  have a2 : ¬ g' + 1 ≤ g := fun h => by have := V_le.2 h; omega
  have : g = g' := by omega
  subst this
  rw [h4 hg] at h1
  exact ⟨h1, h5⟩

/- WHOLE NUMBERS -/
/-- cut at the point: the quotient by U and what is left over -/
theorem cut_gen (way : Toward) (s : Bool) (m p ex : Nat) (hw : way ≠ .even) :
    way.cut s (m <<< ((-(ex : Int)) + (p : Nat)).toNat) (-((-(ex : Int)) + (p : Nat))).toNat = m * 2 ^ p / 2 ^ ex + (match way with | .down => s && (m * 2 ^ p % 2 ^ ex != 0) | .up => !s && (m * 2 ^ p % 2 ^ ex != 0) | _ => false).toNat := by
  obtain ⟨U, hU⟩ : ∃ U, U = 2 ^ ex := ⟨_, rfl⟩
  have U_pos : 0 < U := by rw [hU]; exact Nat.two_pow_pos ex
  rw [← hU]
  have hkey : ∃ gap n, (1 : Nat) <<< min (-((-(ex : Int)) + (p : Nat))).toNat ((m <<< ((-(ex : Int)) + (p : Nat)).toNat).log2 + 2) = gap ∧ m <<< ((-(ex : Int)) + (p : Nat)).toNat = n ∧ n / gap = m * 2 ^ p / U ∧ (n % gap = 0 ↔ m * 2 ^ p % U = 0) := by
    by_cases hp : ex ≤ p
    · refine ⟨1, m * 2 ^ (p - ex), ?_, ?_, ?_, ?_⟩
      · have : (-((-(ex : Int)) + (p : Nat))).toNat = 0 := by omega
        rw [this]; simp
      · rw [Nat.shiftLeft_eq]; congr 2; omega
      · have e : m * 2 ^ p = m * 2 ^ (p - ex) * U := by rw [hU, Nat.mul_assoc, ← Nat.pow_add]; congr 2; omega
        rw [e, Nat.mul_div_cancel _ U_pos, Nat.div_one]
      · have e : m * 2 ^ p = m * 2 ^ (p - ex) * U := by rw [hU, Nat.mul_assoc, ← Nat.pow_add]; congr 2; omega
        rw [e, Nat.mul_mod_left]; simp [Nat.mod_one]
    · have e0 : ((-(ex : Int)) + (p : Nat)).toNat = 0 := by omega
      have e1 : (-((-(ex : Int)) + (p : Nat))).toNat = ex - p := by omega
      rw [e0, e1]
      have eU : U = 2 ^ (ex - p) * 2 ^ p := by rw [hU, ← Nat.pow_add]; congr 1; omega
      have hq : 0 < 2 ^ p := Nat.two_pow_pos p
      have d1 : m * 2 ^ p / U = m / 2 ^ (ex - p) := by rw [eU, Nat.mul_div_mul_right _ _ hq]
      have d2 : m * 2 ^ p % U = m % 2 ^ (ex - p) * 2 ^ p := by rw [eU, Nat.mul_mod_mul_right]
      have d3 : m % 2 ^ (ex - p) * 2 ^ p = 0 ↔ m % 2 ^ (ex - p) = 0 := by
        rw [Nat.mul_eq_zero]; omega
      rw [d1, d2, d3]
      refine ⟨_, m, rfl, by simp, ?_, ?_⟩
      · show m / (1 <<< min (ex - p) ((m <<< 0).log2 + 2)) = _
        rw [Nat.shiftLeft_zero, Nat.shiftLeft_eq, Nat.one_mul]
        by_cases hc : ex - p ≤ m.log2 + 2
        · rw [Nat.min_eq_left hc]
        · rw [Nat.min_eq_right (by omega)]
          have l1 : m < 2 ^ (m.log2 + 1) := Nat.lt_log2_self
          have l2 : 2 ^ (m.log2 + 1) ≤ 2 ^ (m.log2 + 2) := Nat.pow_le_pow_right (by decide) (by omega)
          have l3 : 2 ^ (m.log2 + 2) ≤ 2 ^ (ex - p) := Nat.pow_le_pow_right (by decide) (by omega)
          rw [Nat.div_eq_of_lt (by omega), Nat.div_eq_of_lt (by omega)]
      · show m % (1 <<< min (ex - p) ((m <<< 0).log2 + 2)) = 0 ↔ _
        rw [Nat.shiftLeft_zero, Nat.shiftLeft_eq, Nat.one_mul]
        by_cases hc : ex - p ≤ m.log2 + 2
        · rw [Nat.min_eq_left hc]
        · rw [Nat.min_eq_right (by omega)]
          have l1 : m < 2 ^ (m.log2 + 1) := Nat.lt_log2_self
          have l2 : 2 ^ (m.log2 + 1) ≤ 2 ^ (m.log2 + 2) := Nat.pow_le_pow_right (by decide) (by omega)
          have l3 : 2 ^ (m.log2 + 2) ≤ 2 ^ (ex - p) := Nat.pow_le_pow_right (by decide) (by omega)
          rw [Nat.mod_eq_of_lt (by omega), Nat.mod_eq_of_lt (by omega)]
  obtain ⟨gap, n, h1, h2, h3, h4⟩ := hkey
  unfold Toward.cut
  simp only [h1]
  rw [h2, h3]
  have h5 : (n % gap != 0) = (m * 2 ^ p % U != 0) := by
    by_cases h : n % gap = 0
    · rw [h, h4.1 h]
    · have h' : ¬ m * 2 ^ p % U = 0 := fun c => h (h4.2 c)
      rw [bne_iff_ne.2 h, bne_iff_ne.2 h']
  cases way
  · exact absurd rfl hw
  · exact congrArg (fun b => m * 2 ^ p / U + (s && b).toNat) h5
  · exact congrArg (fun b => m * 2 ^ p / U + (!s && b).toNat) h5
  · rfl
theorem cut_point (way : Toward) (s : Bool) (m p : Nat) (hw : way ≠ .even) :
    way.cut s (m <<< ((-1074 : Int) + (p : Nat)).toNat) (-((-1074 : Int) + (p : Nat))).toNat = m * 2 ^ p / U + (match way with | .down => s && (m * 2 ^ p % U != 0) | .up => !s && (m * 2 ^ p % U != 0) | _ => false).toNat := by
  have h := cut_gen way s m p ex hw
  have e : (-(ex : Int)) = -1074 := rfl
  rw [e] at h
  exact h

def more (way : Toward) (b : Nat) : Bool := match way with | .down => isNeg b && (V (rung b) % U != 0) | .up => !isNeg b && (V (rung b) % U != 0) | _ => false
def whol (way : Toward) (b : Nat) : Nat := V (rung b) / U + (more way b).toNat
theorem mg_lt (r : Nat) : mg r < 9007199254740992 := by unfold mg; split <;> omega
def top : Nat := 1024
theorem V_top : V 9218868437227405312 = 2 ^ top * U := by decide +kernel
theorem integral_num {b : Nat} (way : Toward) (hw : way ≠ .even) (h : isNan b = false) (hi : rung b ≠ 9218868437227405312) :
    (double.read b).integral way = .number (isNeg b) (whol way b) 0 := by
  have hl : double.leastPlace = -1074 := by decide
  rw [read_num h hi, hl]
  show Datum.number _ _ _ = _
  rw [cut_point way _ _ _ hw]
  cases way
  · exact absurd rfl hw
  all_goals rfl
/-- a number made whole is a number again -/
theorem round_fin {b : Nat} (way : Toward) (hw : way ≠ .even) (h : isNan b = false) (hi : rung b ≠ 9218868437227405312) :
    ∃ g, g < 9218868437227405312 ∧ V g = whol way b * U ∧ double.write ((double.read b).integral way) = dw (isNeg b) g := by
  rw [integral_num way hw h hi]
  have hr : rung b < 9218868437227405312 := by have := rung_inf h; omega
  have hV : V (rung b) < 2 ^ top * U := by rw [← V_top]; exact V_mono hr
  have hdm := Nat.div_add_mod (V (rung b)) U
  obtain ⟨k, hk⟩ : ∃ k, k = whol way b := ⟨_, rfl⟩
  have hkx : ∃ g, V g = k * U ∧ k < 2 ^ top := by
    by_cases h0 : V (rung b) % U = 0
    · have hm : more way b = false := by unfold more; rw [h0]; cases way <;> simp
      have hk0 : k * U = V (rung b) := by rw [hk]; unfold whol; rw [hm]; simp only [Bool.toNat_false, Nat.add_zero]; rw [Nat.mul_comm]; omega
      refine ⟨rung b, hk0.symm, ?_⟩
      rw [← hk0] at hV
      exact Nat.lt_of_mul_lt_mul_right hV
    · have hp : pl (rung b) < ex := Nat.lt_of_not_le fun c => h0 (by
        have e : V (rung b) = mg (rung b) * 2 ^ (pl (rung b) - ex) * U := by
          show mg (rung b) * 2 ^ pl (rung b) = _ * 2 ^ ex
          rw [Nat.mul_assoc, ← Nat.pow_add]; congr 2; omega
        rw [e]; exact Nat.mul_mod_left _ _)
      have hVl : V (rung b) / U < 4503599627370496 := by
        rw [Nat.div_lt_iff_lt_mul U_pos]
        have a1 : V (rung b) < 9007199254740992 * 2 ^ pl (rung b) := Nat.mul_lt_mul_of_pos_right (mg_lt _) (Nat.two_pow_pos _)
        have a2 : 2 ^ (pl (rung b) + 1) ≤ U := Nat.pow_le_pow_right (by decide) (by omega)
        rw [Nat.pow_succ] at a2
        have a3 : 4503599627370496 * (2 ^ pl (rung b) * 2) ≤ 4503599627370496 * U := Nat.mul_le_mul_left _ a2
        omega
      have hk1 : k < 9007199254740992 := by rw [hk]; unfold whol; have := Bool.toNat_le (more way b); omega
      obtain ⟨g, hg⟩ := V_rep ex k hk1
      refine ⟨g, hg, Nat.lt_trans hk1 ?_⟩
      rw [show (9007199254740992 : Nat) = 2 ^ 53 by decide]
      exact Nat.pow_lt_pow_right (by decide) (by decide)
  obtain ⟨g, hg, hk2⟩ := hkx
  rw [← hk]
  show ∃ g, _ ∧ _ ∧ double.nearest (isNeg b) k 0 = _
  by_cases hk0 : k = 0
  · subst hk0
    refine ⟨0, by decide, by rw [V_zero, Nat.zero_mul], ?_⟩
    unfold Format.nearest
    rw [if_pos rfl, word_dw]
  · have e : (0 : Int) = -1074 + (ex : Nat) := rfl
    have hlog : k.log2 < top := (Nat.log2_lt (by omega)).2 hk2
    obtain ⟨h1, h2⟩ := nearest_exact (isNeg b) k ex g (by omega) (by show 1074 + _ ≤ _; have : top = 1024 := rfl; omega) hg
    exact ⟨g, h2, hg, by rw [e]; exact h1⟩
/-- with its sign -/
def sg (s : Bool) (k : Nat) : Int := if s then -(k : Int) else k
theorem sV_dw {s : Bool} {g k : Nat} (h : g < 9218868437227405312) (hg : V g = k * U) : sV (dw s g) = sg s k * U := by
  unfold sV sg; rw [dw_neg (by omega), dw_rung (by omega), hg]
  cases s <;> simp [Int.natCast_mul, Int.neg_mul]
theorem nan_dw {s : Bool} {g : Nat} (h : g < 9218868437227405312) : isNan (dw s g) = false := by
  unfold isNan; rw [dw_rung (by omega)]; simp; omega
theorem toInt_dw {s : Bool} {g k : Nat} (h : g < 9218868437227405312) (hg : V g = k * U) : (double.read (dw s g)).toInt .zero = some (sg s k) := by
  unfold Datum.toInt
  rw [integral_num .zero (by decide) (nan_dw h) (by rw [dw_rung (by omega)]; omega)]
  show some (signed _ _ _) = _
  have e : whol .zero (dw s g) = k := by
    unfold whol more; rw [dw_rung (by omega), hg, Nat.mul_div_cancel _ U_pos]; rfl
  rw [e, dw_neg (by omega)]
  unfold signed sg
  cases s <;> simp
theorem V_one63 : V 4890909195324358656 = 9223372036854775808 * U := by decide +kernel
theorem lim_lo : sV 14114281232179134464 = -9223372036854775808 * U := by
  have : sV 14114281232179134464 = -(V 4890909195324358656 : Int) := by decide +kernel
  rw [this, V_one63]; simp [Int.natCast_mul, Int.neg_mul]
theorem lim_hi : sV 4890909195324358656 = 9223372036854775808 * U := by
  have : sV 4890909195324358656 = (V 4890909195324358656 : Int) := by decide +kernel
  rw [this, V_one63]; simp [Int.natCast_mul]
theorem mulU_lt (a b : Int) : a * U < b * U ↔ a < b := by
  have h : (0 : Int) < U := by have := U_pos; omega
  exact ⟨fun c => Int.lt_of_mul_lt_mul_right c (by omega), fun c => Int.mul_lt_mul_of_pos_right c h⟩
theorem lt_lo {s : Bool} {g k : Nat} (h : g < 9218868437227405312) (hg : V g = k * U) : fLt (dw s g) 14114281232179134464 = decide (sg s k < -9223372036854775808) := by
  unfold fLt
  rw [nan_dw h, show isNan 14114281232179134464 = false by decide]
  simp only [Bool.not_false, Bool.true_and]
  congr 1
  rw [← sV_lt, sV_dw h hg, lim_lo]
  exact propext (mulU_lt _ _)
theorem lt_hi {s : Bool} {g k : Nat} (h : g < 9218868437227405312) (hg : V g = k * U) : fLt (dw s g) 4890909195324358656 = decide (sg s k < 9223372036854775808) := by
  unfold fLt
  rw [nan_dw h, show isNan 4890909195324358656 = false by decide]
  simp only [Bool.not_false, Bool.true_and]
  congr 1
  rw [← sV_lt, sV_dw h hg, lim_hi]
  exact propext (mulU_lt _ _)
theorem fGe (a b : Nat) (ha : isNan a = false) (hb : isNan b = false) : (FloatKind.f64.format.order a b == some Ordering.gt || FloatKind.f64.format.order a b == some Ordering.eq) = !fLt a b := by
  rw [ord_gt, ord_eq]
  unfold fLt fEq
  rw [ha, hb]
  simp only [Bool.not_false, Bool.true_and]
  by_cases h : key a < key b
  · have h1 : ¬ key b < key a := by omega
    have h2 : ¬ key a = key b := by omega
    simp [h, h1, h2]
  · by_cases h2 : key a = key b
    · simp [h2]
    · have h1 : key b < key a := by omega
      simp [h, h1]

theorem divmodU (v : Nat) : ∃ q r : Nat, v / U = q ∧ v % U = r ∧ v = q * U + r ∧ r < U :=
  ⟨_, _, rfl, rfl, by rw [Nat.mul_comm]; exact (Nat.div_add_mod v U).symm, Nat.mod_lt _ U_pos⟩
theorem floor_prop (b : Nat) : sg (isNeg b) (whol .down b) * U ≤ sV b ∧ sV b < (sg (isNeg b) (whol .down b) + 1) * U := by
  obtain ⟨q, r, h1, h2, h3, h4⟩ := divmodU (V (rung b))
  unfold sg whol more sV
  rw [h1, h2, h3]
  cases isNeg b
  · simp [Int.add_mul]
    omega
  · by_cases h0 : r = 0
    · subst h0
      simp [Int.add_mul, Int.neg_mul]
      omega
    · have : (r != 0) = true := by simp [h0]
      simp [this, Int.add_mul, Int.neg_mul]
      omega
theorem ceil_prop (b : Nat) : sV b ≤ sg (isNeg b) (whol .up b) * U ∧ (sg (isNeg b) (whol .up b) - 1) * U < sV b := by
  obtain ⟨q, r, h1, h2, h3, h4⟩ := divmodU (V (rung b))
  unfold sg whol more sV
  rw [h1, h2, h3]
  cases isNeg b
  · by_cases h0 : r = 0
    · subst h0
      simp [Int.sub_mul]
      omega
    · have : (r != 0) = true := by simp [h0]
      simp [this, Int.add_mul]
      omega
  · simp [Int.neg_mul, Int.sub_mul]
    omega
/-- g is the greatest rung that is at most k -/
def At (g k : Nat) : Prop := V g ≤ k * U ∧ k * U < V (g + 1) ∧ g < 9218868437227405312
theorem log2_small {k : Nat} (h0 : 0 < k) (h : k ≤ 9223372036854775808) : ex + k.log2 ≤ 2097 := by
  have : k.log2 < 64 := (Nat.log2_lt (by omega)).2 (Nat.lt_of_le_of_lt h (by decide))
  show 1074 + _ ≤ _
  omega
theorem at_uniq {g g' k : Nat} (h : At g k) (h' : At g' k) : g = g' := by
  obtain ⟨a1, a2, _⟩ := h
  obtain ⟨b1, b2, _⟩ := h'
  have c1 : ¬ g + 1 ≤ g' := fun c => by have := V_le.2 c; omega
  have c2 : ¬ g' + 1 ≤ g := fun c => by have := V_le.2 c; omega
  omega
/-- float64(n): the rung below, or the one above it -/
theorem ofInt_near (n : Int) (h : n.natAbs ≤ 9223372036854775808) : ∃ g e, At g n.natAbs ∧ e ≤ 1 ∧ (V g = n.natAbs * U → e = 0) ∧ FloatKind.f64.nearest n = dw (decide (n < 0)) (g + e) := by
  show ∃ g e, _ ∧ _ ∧ _ ∧ double.nearest (decide (n < 0)) n.natAbs 0 = _
  by_cases h0 : n.natAbs = 0
  · rw [h0]
    refine ⟨0, 0, ⟨by rw [V_zero, Nat.zero_mul]; exact Nat.le_refl _, by rw [Nat.zero_mul, V_low (by decide)]; decide, by decide⟩, by decide, fun _ => rfl, ?_⟩
    unfold Format.nearest
    rw [if_pos rfl, word_dw]
  · obtain ⟨g, e, h1, h2, h3, h4, h5, h6⟩ := nearest_calc (decide (n < 0)) n.natAbs ex (by omega) (log2_small (by omega) h)
    exact ⟨g, e, ⟨h3, h4, h6⟩, h1, h5, h2⟩
theorem ofInt_exact {n : Int} {g : Nat} (h : n.natAbs ≤ 9223372036854775808) (hg : V g = n.natAbs * U) (hi : g < 9218868437227405312) : FloatKind.f64.nearest n = dw (decide (n < 0)) g := by
  obtain ⟨g', e, h1, h2, h3, h4⟩ := ofInt_near n h
  have := at_uniq h1 ⟨Nat.le_of_eq hg, by have := @V_lt g (g + 1); rw [hg] at this; omega, hi⟩
  subst this
  rw [h4, h3 hg]; rfl
theorem cmpZ_scale (a b : Int) : cmpZ (a * U) (b * U) = cmpZ a b := by unfold cmpZ; simp only [mulU_lt]
theorem cmpZ_key (a b : Nat) : cmpZ (key a) (key b) = cmpZ (sV a) (sV b) := by unfold cmpZ; simp only [sV_lt]
theorem sV_zero : sV 0 = 0 := by unfold sV; rw [show isNeg 0 = false by decide, show rung 0 = 0 by decide, V_zero]; rfl
theorem sV_inf {b : Nat} (h : rung b = 9218868437227405312) : sV b = sg (isNeg b) (2 ^ top) * U := by
  unfold sV sg; rw [h, V_top]; cases isNeg b <;> simp [Int.natCast_mul, Int.neg_mul]
theorem top_big : 9223372036854775808 < 2 ^ top := by
  have h : (2 : Nat) ^ 64 ≤ 2 ^ top := Nat.pow_le_pow_right (by decide) (by decide)
  have h2 : (2 : Nat) ^ 64 = 18446744073709551616 := by decide
  show _ < 2 ^ top
  omega
end Go.Proofs.Ytadnehnhgnfclaa
