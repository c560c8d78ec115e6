/-
  DERIVED. CIVIL DAYS AS WHOLE NUMBERS: which are right, their days, weekdays, ordinals, order. No program.
-/
import Derived.Test.YtoafigehcgledaaGreatDoorMoMath
namespace Go.Proofs.YtoafigehcgledaaGreatDoor

/-- the error of a civil day -/
def chkC (y m d : Int) : Int := if chkM y m = 0 then (if 1 ≤ d ∧ d ≤ lenM y m then 0 else 8) else chkM y m
/-- the day of a civil day -/
def Dc (y m d : Int) : Int := Sm y m + (d - 1)
structure Right (y m d : Int) : Prop where
  yr : isY y = true
  m0 : 1 ≤ m
  m1 : m ≤ 12
  d0 : 1 ≤ d
  d1 : d ≤ lenM y m
theorem chkC_iff (y m d : Int) : chkC y m d = 0 ↔ Right y m d := by
  unfold chkC
  by_cases h : chkM y m = 0
  · rw [if_pos h]
    have hm := (chkM_iff y m).1 h
    by_cases g : 1 ≤ d ∧ d ≤ lenM y m
    · rw [if_pos g]; exact ⟨fun _ => ⟨hm.1, hm.2.1, hm.2.2, g.1, g.2⟩, fun _ => rfl⟩
    · rw [if_neg g]; exact ⟨fun e => absurd e (by decide), fun e => absurd ⟨e.d0, e.d1⟩ g⟩
  · rw [if_neg h]; exact ⟨fun e => absurd e h, fun e => absurd ((chkM_iff y m).2 ⟨e.yr, e.m0, e.m1⟩) h⟩
theorem Right.chkM {y m d : Int} (h : Right y m d) : chkM y m = 0 := (chkM_iff y m).2 ⟨h.yr, h.m0, h.m1⟩
theorem Right.has {y m d : Int} (h : Right y m d) : MonthHas y m (Dc y m d) := by
  have := Sm_succ (y := y) h.m0 h.m1
  have := h.d0
  have := h.d1
  exact ⟨h.m0, h.m1, by unfold Dc; omega, by unfold Dc; omega⟩
/-- the civil day of a day of the calendar -/
theorem right_of {y m n : Int} (hy : isY y = true) (h : MonthHas y m n) : Right y m (n - Sm y m + 1) ∧ Dc y m (n - Sm y m + 1) = n := by
  have h1 := Sm_succ (y := y) h.m0 h.m1
  have h2 := h.lo
  have h3 := h.hi
  exact ⟨⟨hy, h.m0, h.m1, by omega, by omega⟩, by unfold Dc; omega⟩
/-- the weekday -/
def wday (n : Int) : Int := (n + 5) % 7
theorem wday_in (n : Int) : 0 ≤ wday n ∧ wday n < 7 := by unfold wday; omega
theorem wday_succ (n : Int) : wday (n + 1) = (wday n + 1) % 7 := by unfold wday; omega
/-- the order -/
def cmpI (a b : Int) : Int := if a < b then -1 else if b < a then 1 else 0
def cmpC (a b c x y z : Int) : Int := if cmpI a x = 0 then (if cmpI b y = 0 then cmpI c z else cmpI b y) else cmpI a x
theorem cmpI_cases (a b : Int) : (a < b ∧ cmpI a b = -1) ∨ (a = b ∧ cmpI a b = 0) ∨ (b < a ∧ cmpI a b = 1) := by
  unfold cmpI
  by_cases h : a < b
  · left; exact ⟨h, if_pos h⟩
  · rw [if_neg h]
    by_cases g : b < a
    · right; right; exact ⟨g, if_pos g⟩
    · right; left; exact ⟨by omega, if_neg g⟩
theorem cmpI_swap (a b : Int) : cmpI b a = -cmpI a b := by
  rcases cmpI_cases a b with h | h | h <;> rcases cmpI_cases b a with g | g | g <;> first | (exfalso; omega) | simp [h.2, g.2]
theorem cmpC_swap (a b c x y z : Int) : cmpC x y z a b c = -cmpC a b c x y z := by
  unfold cmpC
  rw [cmpI_swap a x, cmpI_swap b y, cmpI_swap c z]
  rcases cmpI_cases a x with h | h | h <;> rcases cmpI_cases b y with i | i | i <;> rcases cmpI_cases c z with k | k | k <;> simp [h.2, i.2, k.2]
theorem cmpC_zero (a b c x y z : Int) : cmpC a b c x y z = 0 ↔ a = x ∧ b = y ∧ c = z := by
  unfold cmpC
  rcases cmpI_cases a x with h | h | h <;> rcases cmpI_cases b y with i | i | i <;> rcases cmpI_cases c z with k | k | k <;> simp only [h.2, i.2, k.2] <;> simp <;> omega
theorem cmpC_le (a b c x y z : Int) : cmpC a b c x y z ≤ 0 ↔ a < x ∨ a = x ∧ (b < y ∨ b = y ∧ c ≤ z) := by
  unfold cmpC
  rcases cmpI_cases a x with h | h | h <;> rcases cmpI_cases b y with i | i | i <;> rcases cmpI_cases c z with k | k | k <;> simp only [h.2, i.2, k.2] <;> simp <;> omega
theorem cmpC_one (a b c x y z : Int) : (cmpC a b c x y z = -1 ∨ cmpC a b c x y z = 0 ∨ cmpC a b c x y z = 1) := by
  unfold cmpC
  rcases cmpI_cases a x with h | h | h <;> rcases cmpI_cases b y with i | i | i <;> rcases cmpI_cases c z with k | k | k <;> simp [h.2, i.2, k.2]
theorem cmpC_trans (a b c x y z u v w : Int) (h1 : cmpC a b c x y z ≤ 0) (h2 : cmpC x y z u v w ≤ 0) : cmpC a b c u v w ≤ 0 := by
  rw [cmpC_le] at *
  omega
/-- the order of days is that of civil days -/
theorem Dc_lt {a b c x y z : Int} (h : Right a b c) (g : Right x y z) (hl : a < x ∨ a = x ∧ (b < y ∨ b = y ∧ c < z)) : Dc a b c < Dc x y z := by
  have h1 := h.has
  have g1 := g.has
  rcases hl with e | ⟨rfl, e | ⟨rfl, e⟩⟩
  · have hy := h1.year
    have gy := g1.year
    have := Sd_le (show a + 1 ≤ x by omega)
    have := hy.2
    have := gy.1
    omega
  · have := Sm_le (y := a) (m := b + 1) (n := y) (by have := h.m0; omega) (by omega) (by have := g.m1; omega)
    have := h1.hi
    have := g1.lo
    omega
  · unfold Dc; omega
theorem cmp_days {a b c x y z : Int} (h : Right a b c) (g : Right x y z) : cmpC a b c x y z = cmpI (Dc a b c) (Dc x y z) := by
  have hz := cmpC_zero a b c x y z
  have hl := cmpC_le a b c x y z
  have ho := cmpC_one a b c x y z
  by_cases e1 : a < x ∨ a = x ∧ (b < y ∨ b = y ∧ c < z)
  · have := Dc_lt h g e1
    have hs : cmpI (Dc a b c) (Dc x y z) = -1 := by unfold cmpI; rw [if_pos this]
    rw [hs]
    have h1 := hl.2 (by omega)
    have h2 : ¬ cmpC a b c x y z = 0 := fun e => by have := hz.1 e; omega
    omega
  · by_cases e2 : x < a ∨ x = a ∧ (y < b ∨ y = b ∧ z < c)
    · have := Dc_lt g h e2
      have hs : cmpI (Dc a b c) (Dc x y z) = 1 := by unfold cmpI; rw [if_neg (by omega), if_pos this]
      rw [hs]
      have h1 : ¬ cmpC a b c x y z ≤ 0 := fun e => by have := hl.1 e; omega
      omega
    · obtain ⟨rfl, rfl, rfl⟩ : a = x ∧ b = y ∧ c = z := by omega
      rw [hz.2 ⟨rfl, rfl, rfl⟩]
      unfold cmpI; rw [if_neg (by omega), if_neg (by omega)]
/-- the ordinal -/
def ordC (y m d : Int) : Int := Dc y m d - Sd y + 1
theorem ord_in {y m d : Int} (h : Right y m d) : 1 ≤ ordC y m d ∧ ordC y m d ≤ lenI y := by
  have h1 := h.has.year
  have h2 := Sd_succ y
  unfold ordC
  have := h1.1
  have := h1.2
  omega
theorem Right.i64 {y m d : Int} (h : Right y m d) : (-10000000000000000 ≤ y ∧ y ≤ 10000000000000000) ∧ (1 ≤ m ∧ m ≤ 12) ∧ (1 ≤ d ∧ d ≤ 31) := by
  have h1 := (isY_iff y).1 h.yr
  have h2 := lenM_in y m
  have := h.m0
  have := h.m1
  have := h.d0
  have := h.d1
  omega
theorem right_ex {n y : Int} (hyd : YearHas y n) (hy : isY y = true) : ∃ m d, Right y m d ∧ Dc y m d = n ∧ MonthHas y m n ∧ n - Sm y m + 1 = d := by
  obtain ⟨m, hm⟩ := month_exists hyd
  have h := right_of hy hm
  exact ⟨m, n - Sm y m + 1, h.1, h.2, hm, rfl⟩
end Go.Proofs.YtoafigehcgledaaGreatDoor
