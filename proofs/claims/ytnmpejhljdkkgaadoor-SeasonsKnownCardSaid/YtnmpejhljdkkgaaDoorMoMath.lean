/-
  DERIVED. MONTHS AS WHOLE NUMBERS: lengths, first days, indices. No program.
-/
import Derived.Test.YtnmpejhljdkkgaaDoorYrMath
namespace Go.Proofs.YtnmpejhljdkkgaaDoor

/-- how many days a month has, in a year that has l -/
def mlen (l m : Int) : Int := if m = 4 ∨ m = 6 ∨ m = 9 ∨ m = 11 then 30 else if m = 2 then l - 337 else 31
/-- how many days of a year that has l lie ahead of a month -/
def moff (l m : Int) : Int :=
  if m ≤ 1 then 0 else if m = 2 then 31 else if m = 3 then l - 306 else if m = 4 then l - 275 else if m = 5 then l - 245 else if m = 6 then l - 214 else if m = 7 then l - 184
  else if m = 8 then l - 153 else if m = 9 then l - 122 else if m = 10 then l - 92 else if m = 11 then l - 61 else if m = 12 then l - 31 else l
theorem months {m : Int} (h1 : 1 ≤ m) (h2 : m ≤ 12) : m = 1 ∨ m = 2 ∨ m = 3 ∨ m = 4 ∨ m = 5 ∨ m = 6 ∨ m = 7 ∨ m = 8 ∨ m = 9 ∨ m = 10 ∨ m = 11 ∨ m = 12 := by omega
theorem moff_succ (l : Int) {m : Int} (h1 : 1 ≤ m) (h2 : m ≤ 12) : moff l (m + 1) = moff l m + mlen l m := by
  rcases months h1 h2 with rfl | rfl | rfl | rfl | rfl | rfl | rfl | rfl | rfl | rfl | rfl | rfl <;> simp [moff, mlen] <;> omega
def lenM (y m : Int) : Int := mlen (lenI y) m
/-- the first day of a month -/
def Sm (y m : Int) : Int := Sd y + moff (lenI y) m
theorem Sm_one (y : Int) : Sm y 1 = Sd y := by unfold Sm; rw [show moff (lenI y) 1 = 0 from rfl]; omega
theorem Sm_end (y : Int) : Sm y 13 = Sd (y + 1) := by
  unfold Sm
  rw [show moff (lenI y) 13 = lenI y by simp [moff], Sd_succ]
theorem Sm_succ {y m : Int} (h1 : 1 ≤ m) (h2 : m ≤ 12) : Sm y (m + 1) = Sm y m + lenM y m := by unfold Sm lenM; rw [moff_succ _ h1 h2]; omega
theorem mlen_in {l m : Int} (h : l = 365 ∨ l = 366) : 28 ≤ mlen l m ∧ mlen l m ≤ 31 := by unfold mlen; split <;> (try split) <;> omega
theorem lenM_in (y m : Int) : 28 ≤ lenM y m ∧ lenM y m ≤ 31 := mlen_in (lenI_two y)
theorem moff_in {l m : Int} (h : l = 365 ∨ l = 366) (h1 : 1 ≤ m) (h2 : m ≤ 13) : 0 ≤ moff l m ∧ moff l m ≤ l := by
  by_cases e : m = 13
  · subst e; simp [moff]; omega
  · rcases months h1 (by omega) with rfl | rfl | rfl | rfl | rfl | rfl | rfl | rfl | rfl | rfl | rfl | rfl <;> simp [moff] <;> omega
theorem Sm_in {y m : Int} (h1 : 1 ≤ m) (h2 : m ≤ 13) : Sd y ≤ Sm y m ∧ Sm y m ≤ Sd y + 366 := by
  have h := moff_in (lenI_two y) h1 h2
  have := lenI_two y
  unfold Sm; omega
/-- a month has a day -/
structure MonthHas (y m d : Int) : Prop where
  m0 : 1 ≤ m
  m1 : m ≤ 12
  lo : Sm y m ≤ d
  hi : d < Sm y (m + 1)
theorem Sm_lt {y m : Int} (n : Nat) (h1 : 1 ≤ m) (h2 : m + n ≤ 13) : Sm y m ≤ Sm y (m + n) := by
  induction n with
  | zero => simp
  | succ n ih =>
    have h3 := Sm_succ (y := y) (m := m + n) (by omega) (by omega)
    have h4 := lenM_in y (m + n)
    have := ih (by omega)
    rw [show m + ((n + 1 : Nat) : Int) = m + n + 1 by omega, h3]
    omega
theorem Sm_le {y m n : Int} (h1 : 1 ≤ m) (h2 : m ≤ n) (h3 : n ≤ 13) : Sm y m ≤ Sm y n := by
  have := Sm_lt (y := y) (n - m).toNat h1 (by omega)
  rwa [show m + ((n - m).toNat : Int) = n by omega] at this
theorem MonthHas.year {y m d : Int} (h : MonthHas y m d) : YearHas y d := by
  have h1 := Sm_le (y := y) (m := 1) (n := m) (by omega) h.m0 (by have := h.m1; omega)
  have h2 := Sm_le (y := y) (m := m + 1) (n := 13) (by have := h.m0; omega) (by have := h.m1; omega) (by omega)
  rw [Sm_one] at h1
  rw [Sm_end] at h2
  exact ⟨by have := h.lo; omega, by have := h.hi; omega⟩
theorem month_exists {y d : Int} (h : YearHas y d) : ∃ m, MonthHas y m d := by
  have key : ∀ n : Nat, n ≤ 12 → d < Sm y (n + 1) → ∃ m, MonthHas y m d := by
    intro n
    induction n with
    | zero => intro _ h2; rw [show ((0 : Nat) : Int) + 1 = 1 by omega, Sm_one] at h2; have := h.1; omega
    | succ n ih =>
      intro hn h2
      by_cases e : d < Sm y (n + 1)
      · exact ih (by omega) e
      · exact ⟨((n + 1 : Nat) : Int), by omega, by omega, by rw [show ((n + 1 : Nat) : Int) = n + 1 by omega]; omega, h2⟩
  refine key 12 (by omega) ?_
  rw [show ((12 : Nat) : Int) + 1 = 13 by omega, Sm_end]
  exact h.2
theorem month_uniq {y m n d : Int} (h : MonthHas y m d) (g : MonthHas y n d) : m = n := by
  by_cases e : m < n
  · have := Sm_le (y := y) (m := m + 1) (n := n) (by have := h.m0; omega) (by omega) (by have := g.m1; omega)
    have := h.hi; have := g.lo; omega
  · by_cases e2 : n < m
    · have := Sm_le (y := y) (m := n + 1) (n := m) (by have := g.m0; omega) (by omega) (by have := h.m1; omega)
      have := g.hi; have := h.lo; omega
    · omega
/-- the error of a month -/
def chkM (y m : Int) : Int := if isY y then (if 1 ≤ m ∧ m ≤ 12 then 0 else 7) else 6
theorem chkM_iff (y m : Int) : chkM y m = 0 ↔ isY y = true ∧ 1 ≤ m ∧ m ≤ 12 := by
  unfold chkM
  by_cases h : isY y = true
  · rw [if_pos h]
    by_cases g : 1 ≤ m ∧ m ≤ 12
    · rw [if_pos g]; exact ⟨fun _ => ⟨h, g⟩, fun _ => rfl⟩
    · rw [if_neg g]; exact ⟨fun e => absurd e (by decide), fun e => absurd e.2 g⟩
  · rw [if_neg h]; exact ⟨fun e => absurd e (by decide), fun e => absurd e.1 h⟩
/-- the index of a month, and the month of an index -/
def ixM (y m : Int) : Int := 12 * y + m - 1
def yrI (i : Int) : Int := i / 12
def moI (i : Int) : Int := i % 12 + 1
theorem moI_in (i : Int) : 1 ≤ moI i ∧ moI i ≤ 12 := by unfold moI; omega
theorem ix_of (i : Int) : ixM (yrI i) (moI i) = i := by unfold ixM yrI moI; omega
theorem of_ix {y m : Int} (h1 : 1 ≤ m) (h2 : m ≤ 12) : yrI (ixM y m) = y ∧ moI (ixM y m) = m := by unfold ixM yrI moI; omega
/-- the month one on begins the day after -/
theorem Sm_next {y m : Int} (h1 : 1 ≤ m) (h2 : m ≤ 12) : Sm (yrI (ixM y m + 1)) (moI (ixM y m + 1)) = Sm y m + lenM y m := by
  rw [← Sm_succ h1 h2]
  by_cases e : m = 12
  · subst e
    rw [show yrI (ixM y 12 + 1) = y + 1 by unfold yrI ixM; omega, show moI (ixM y 12 + 1) = 1 by unfold moI ixM; omega, Sm_one, show (12 : Int) + 1 = 13 by omega, Sm_end]
  · rw [show yrI (ixM y m + 1) = y by unfold yrI ixM; omega, show moI (ixM y m + 1) = m + 1 by unfold moI ixM; omega]
end Go.Proofs.YtnmpejhljdkkgaaDoor
