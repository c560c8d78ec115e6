/-
  DERIVED. PLAIN MATHEMATICS of texts of numbers. Nothing of the program.
-/
import Derived.Lib.ParseIntB
import Derived.Lib.ParseIntBCases
import Derived.Lib.SlTrimSet
import Derived.Lib.Strings
import Derived.Lib.ItoaNum
namespace Go.Proofs.YtbnlomjlapnoaaaDoor

def cs10 : List UInt8 := [48, 49, 50, 51, 52, 53, 54, 55, 56, 57]
def textB (l : List UInt8) : Bool := l == [48] || (match Lib.trimPrefix l [45] with
  | [] => false
  | c :: r => (c.toNat : Int) != 48 && (Lib.trimS (c :: r) cs10).isEmpty)
/-! ## What a text says, as plain mathematics -/
def valM (acc : Nat) : List UInt8 → Nat
  | [] => acc
  | c :: r => valM (acc * 10 + (c.toNat - 48)) r
def dig (c : UInt8) : Prop := 48 ≤ c.toNat ∧ c.toNat ≤ 57
theorem valM_ge (l : List UInt8) : ∀ acc, acc ≤ valM acc l := by
  induction l with
  | nil => intro acc; exact Nat.le_refl _
  | cons c r ih => intro acc; have := ih (acc * 10 + (c.toNat - 48)); unfold valM; omega
theorem parseUintM_nil (acc : Nat) : Lib.parseUintM 18446744073709551615 acc [] = .ok acc := by rw [Lib.parseUintM]
theorem parseUintM_val (l : List UInt8) : ∀ acc, acc ≤ 18446744073709551615 → (∀ c ∈ l, dig c) →
    Lib.parseUintM 18446744073709551615 acc l = if valM acc l ≤ 18446744073709551615 then .ok (valM acc l) else .range := by
  induction l with
  | nil => intro acc ha _; rw [parseUintM_nil]; exact (if_pos ha).symm
  | cons c r ih =>
    intro acc ha hd
    have hc := hd c (by simp)
    have hg := valM_ge r (acc * 10 + (c.toNat - 48))
    unfold dig at hc
    have e : valM acc (c :: r) = valM (acc * 10 + (c.toNat - 48)) r := rfl
    rw [e, Lib.parseUintM, if_pos hc]
    by_cases h1 : 1844674407370955162 ≤ acc
    · rw [if_pos h1, if_neg (by omega)]
    · rw [if_neg h1]
      by_cases h2 : 18446744073709551615 < acc * 10 + (c.toNat - 48)
      · rw [if_pos h2, if_neg (by omega)]
      · rw [if_neg h2]
        exact ih _ (by omega) (fun x hx => hd x (by simp [hx]))
def textVal : List UInt8 → Int
  | [] => 0
  | c :: r => if c.toNat = 45 then -(valM 0 r : Int) else valM 0 (c :: r)
theorem textVal_minus (r : List UInt8) : textVal (45 :: r) = -(valM 0 r : Int) := by simp [textVal]
theorem textVal_plain (c : UInt8) (r : List UInt8) (h : ¬ c.toNat = 45) : textVal (c :: r) = (valM 0 (c :: r) : Int) := if_neg h
/-- the form of a text -/
def Form (l : List UInt8) : Prop := l = [48] ∨ ∃ c r, (l = c :: r ∨ l = 45 :: c :: r) ∧ ¬ c.toNat = 48 ∧ ∀ x ∈ c :: r, dig x
theorem cs10_iff (c : UInt8) : cs10.contains c = true ↔ dig c := by
  unfold cs10 dig
  simp only [List.contains_eq_mem, decide_eq_true_eq, List.mem_cons, List.not_mem_nil, or_false, ← UInt8.toNat_inj]
  simp
  omega
theorem dropWhile_nil {p : UInt8 → Bool} {l : List UInt8} : l.dropWhile p = [] ↔ ∀ x ∈ l, p x = true := by
  induction l with
  | nil => simp
  | cons a r ih =>
    rw [List.dropWhile_cons]
    cases h : p a with
    | true => simp [h, ih]
    | false => simp [h]
theorem dropWhile_all {p : UInt8 → Bool} {l : List UInt8} (h : ∀ x ∈ l.dropWhile p, p x = true) : l.dropWhile p = [] := by
  induction l with
  | nil => rfl
  | cons a r ih =>
    rw [List.dropWhile_cons] at h ⊢
    cases g : p a with
    | true => rw [g] at h; exact ih (by simpa using h)
    | false => rw [g] at h; have := h a (by simp); rw [g] at this; cases this
theorem trimS_nil (l : List UInt8) : (Lib.trimS l cs10).isEmpty = true ↔ ∀ x ∈ l, dig x := by
  unfold Lib.trimS Lib.trimLeftS Lib.trimRightS
  rw [List.isEmpty_iff]
  constructor
  · intro h
    have h1 := dropWhile_nil.1 h
    have h2 : l.reverse.dropWhile (cs10.contains ·) = [] := dropWhile_all (fun x hx => h1 x (by simpa using hx))
    have h3 := dropWhile_nil.1 h2
    exact fun x hx => (cs10_iff x).1 (h3 x (by simpa using hx))
  · intro h
    have h2 : l.reverse.dropWhile (cs10.contains ·) = [] := dropWhile_nil.2 (fun x hx => (cs10_iff x).2 (h x (by simpa using hx)))
    rw [h2]; rfl
theorem trimPrefix_minus (r : List UInt8) : Lib.trimPrefix (45 :: r) [45] = r := by
  simp [Lib.trimPrefix, Lib.hasPrefix]
theorem trimPrefix_other (c : UInt8) (r : List UInt8) (h : ¬ c.toNat = 45) : Lib.trimPrefix (c :: r) [45] = c :: r := by
  have : ¬ c = 45 := fun e => h (by rw [e]; rfl)
  simp [Lib.trimPrefix, Lib.hasPrefix]
  exact fun e => absurd e (by first | exact this | exact fun g => this g.symm)
theorem textB_iff (l : List UInt8) : textB l = true ↔ Form l := by
  have body : ∀ c r, ((c.toNat : Int) != 48 && (Lib.trimS (c :: r) cs10).isEmpty) = true ↔ ¬ c.toNat = 48 ∧ ∀ x ∈ c :: r, dig x := by
    intro c r
    rw [Bool.and_eq_true, trimS_nil, bne_iff_ne]
    constructor
    · exact fun h => ⟨fun e => h.1 (by omega), h.2⟩
    · exact fun h => ⟨fun e => h.1 (by omega), h.2⟩
  unfold textB Form
  rw [Bool.or_eq_true]
  constructor
  · rintro (h | h)
    · exact .inl (by simpa using h)
    · right
      cases l with
      | nil => simp [Lib.trimPrefix, Lib.hasPrefix] at h
      | cons a t =>
        by_cases ha : a.toNat = 45
        · have e : a = 45 := UInt8.toNat_inj.1 ha
          subst e
          rw [trimPrefix_minus] at h
          cases t with
          | nil => cases h
          | cons c r => exact ⟨c, r, .inr rfl, (body c r).1 h⟩
        · rw [trimPrefix_other a t ha] at h
          exact ⟨a, t, .inl rfl, (body a t).1 h⟩
  · rintro (h | ⟨c, r, h, hb⟩)
    · exact .inl (by simp [h])
    · right
      rcases h with rfl | rfl
      · rw [trimPrefix_other c r (by have := hb.2 c (by simp); unfold dig at this; omega)]
        exact (body c r).2 hb
      · rw [trimPrefix_minus]
        exact (body c r).2 hb
theorem parse_val (l : List UInt8) (h : Form l) : Lib.parseIntB 64 l = if -9223372036854775808 ≤ textVal l ∧ textVal l ≤ 9223372036854775807 then .ok (textVal l) else .range := by
  have key : ∀ c r, (∀ x ∈ c :: r, dig x) → Lib.parseUintB 64 (c :: r) = if valM 0 (c :: r) ≤ 18446744073709551615 then .ok (valM 0 (c :: r)) else .range := by
    intro c r hd
    have e : Lib.parseUintB 64 (c :: r) = Lib.parseUintM 18446744073709551615 0 (c :: r) := rfl
    rw [e]
    exact parseUintM_val _ 0 (by omega) hd
  have pos : ∀ c r, (∀ x ∈ c :: r, dig x) → Lib.parseIntB 64 (c :: r) = if -9223372036854775808 ≤ textVal (c :: r) ∧ textVal (c :: r) ≤ 9223372036854775807 then .ok (textVal (c :: r)) else .range := by
    intro c r hd
    have hc := hd c (by simp)
    unfold dig at hc
    rw [Lib.parseIntB_plain 64 c r (by omega) (by omega), key c r hd]
    have e : textVal (c :: r) = valM 0 (c :: r) := if_neg (by omega)
    rw [e]
    by_cases h1 : valM 0 (c :: r) ≤ 18446744073709551615
    · rw [if_pos h1]
      by_cases h2 : 9223372036854775808 ≤ valM 0 (c :: r)
      · rw [if_neg (by omega)]
        show (if 2 ^ (64 - 1) ≤ _ then _ else _) = _
        rw [if_pos (by simpa using h2)]
      · rw [if_pos (by omega)]
        show (if 2 ^ (64 - 1) ≤ _ then _ else _) = _
        rw [if_neg (by simpa using h2)]
    · rw [if_neg h1, if_neg (by omega)]
      rfl
  rcases h with rfl | ⟨c, r, rfl | rfl, hb⟩
  · exact pos 48 [] (by intro x hx; simp at hx; subst hx; unfold dig; decide)
  · exact pos c r hb.2
  · rw [Lib.parseIntB_minus, key c r hb.2]
    have e : textVal (45 :: c :: r) = -(valM 0 (c :: r) : Int) := textVal_minus _
    rw [e]
    by_cases h1 : valM 0 (c :: r) ≤ 18446744073709551615
    · rw [if_pos h1]
      by_cases h2 : 9223372036854775808 < valM 0 (c :: r)
      · rw [if_neg (by omega)]
        show (if 2 ^ (64 - 1) < _ then _ else _) = _
        rw [if_pos (by simpa using h2)]
      · rw [if_pos (by omega)]
        show (if 2 ^ (64 - 1) < _ then _ else _) = _
        rw [if_neg (by simpa using h2)]
    · rw [if_neg h1, if_neg (by omega)]
      rfl
end Go.Proofs.YtbnlomjlapnoaaaDoor
