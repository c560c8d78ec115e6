/-
 DERIVED. TWO NUMBERS COMPARED. No program.
 DERIVED. ENDS AS NUMBERS: which are right, their order, the next ones. No program.
 DERIVED. RUNS AS NUMBERS: which are right, their days, what they make together and have in common. No program.
 DERIVED. What all walks of this seat share: a fact kept out of the walk's sight; how results are told alike; quotients and remainders.
 DERIVED. PLAIN MATHEMATICS of layer 1 (ints): quotients that round down, and remainders. Nothing of the program.
 DERIVED. What the whole numbers' reference in namespace R1 shares. Written by mkr1.py.
 DERIVED. PLAIN MATHEMATICS of decimal digits, the least first. Nothing of the program.
 DERIVED. CONTRACTS of the reference's whole numbers: digit, less, trim, Neg.
 DERIVED. CONTRACT of the reference's Of: the whole number of an int64.
 DERIVED. CONTRACT of the reference's Add.
 DERIVED. CONTRACT of the reference's Text.
 DERIVED. PLAIN MATHEMATICS of texts of numbers. Nothing of the program.
 DERIVED. Texts of numbers have the form, and their values. In namespace R1. Written off XLawText.
 DERIVED. TEXTS OF ENDS as lists of bytes, and back. No program.
 DERIVED. STRINGS as lists of bytes.
 DERIVED. ARRAYS OF NUMBERS, held by value and in memory: n numbers, as a function of their index says.
 DERIVED. RESULTS that lie in blocks: a struct and a number.
 DERIVED. Rows of numbers that a walk has laid, as every world behind them has them.
-/
import Derived.Test.YtndjcmclmhoigaaGreatDoorRows
import Derived.Test.YtndjcmclmhoigaaGreatDoorProg
import Derived.WalkKit
import Derived.WalkSpells
import Derived.WalkLawsBesides
import Derived.Lib.Hide
import Derived.BigQuiet
import Derived.Deep.QuietTactic
import Derived.WalkSmall
import Derived.Deep.LoopGhost
import Derived.Lib.ItoaNum
import Derived.Laws.BytesArg
import Derived.Lib.ParseIntB
import Derived.Lib.ParseIntBCases
import Derived.Lib.SlTrimSet
import Derived.Lib.Strings
import Derived.Laws.Strings
import Derived.Laws.Concat
import Derived.Laws.RangeAny
import Derived.Laws.CopyOwn
import Derived.Laws.Externs
import Derived.Laws.Rows
namespace Go.Proofs.YtndjcmclmhoigaaGreatDoor

/-- the order -/
def cmpI (a b : Int) : Int := if a < b then -1 else if b < a then 1 else 0
theorem cmpI_cases (a b : Int) : (a < b ∧ cmpI a b = -1) ∨ (a = b ∧ cmpI a b = 0) ∨ (b < a ∧ cmpI a b = 1) := by
 unfold cmpI
 by_cases h : a < b
 ·left; exact ⟨h, if_pos h⟩
 ·rw [if_neg h]
  by_cases g : b < a
  ·right; right; exact ⟨g, if_pos g⟩
  ·right; left; exact ⟨by omega, if_neg g⟩
theorem cmpI_swap (a b : Int) : cmpI b a = -cmpI a b := by
 rcases cmpI_cases a b with h | h | h <;> rcases cmpI_cases b a with g | g | g <;> first | (exfalso; omega) | simp [h.2, g.2]
end Go.Proofs.YtndjcmclmhoigaaGreatDoor
namespace Go.Proofs.YtndjcmclmhoigaaGreatDoor

def chkE (f d : Int) : Int := if f = 0 ∨ (f = 1 ∨ f = -1) ∧ d = 0 then 0 else 5
def cmpE (f d g e : Int) : Int := if cmpI f g = 0 then cmpI d e else cmpI f g
theorem chkE_zero {f d : Int} : chkE f d = 0 ↔ f = 0 ∨ (f = 1 ∨ f = -1) ∧ d = 0 := by
 unfold chkE
 by_cases h : f = 0 ∨ (f = 1 ∨ f = -1) ∧ d = 0
 ·rw [if_pos h]; exact ⟨fun _ => h, fun _ => rfl⟩
 ·rw [if_neg h]; exact ⟨fun e => by omega, fun e => absurd e h⟩
theorem cmpE_swap (f d g e : Int) : cmpE g e f d = -cmpE f d g e := by
 unfold cmpE
 rw [cmpI_swap f g, cmpI_swap d e]
 rcases cmpI_cases f g with h | h | h <;> rcases cmpI_cases d e with i | i | i <;> simp [h.2, i.2]
theorem cmpE_zero (f d g e : Int) : cmpE f d g e = 0 ↔ f = g ∧ d = e := by
 unfold cmpE
 rcases cmpI_cases f g with h | h | h <;> rcases cmpI_cases d e with i | i | i <;> simp only [h.2, i.2] <;> simp <;> omega
theorem cmpE_le (f d g e : Int) : cmpE f d g e ≤ 0 ↔ f < g ∨ f = g ∧ d ≤ e := by
 unfold cmpE
 rcases cmpI_cases f g with h | h | h <;> rcases cmpI_cases d e with i | i | i <;> simp only [h.2, i.2] <;> simp <;> omega
theorem cmpE_one (f d g e : Int) : cmpE f d g e = -1 ∨ cmpE f d g e = 0 ∨ cmpE f d g e = 1 := by
 unfold cmpE
 rcases cmpI_cases f g with h | h | h <;> rcases cmpI_cases d e with i | i | i <;> simp [h.2, i.2]
/-- the next end, and the one before: Inf, Day, the error -/
structure StepE (up : Bool) (f d g e c : Int) : Prop where
 bad : ¬ chkE f d = 0 → g = 0 ∧ e = 0 ∧ c = 5
 inf : chkE f d = 0 → ¬ f = 0 → g = f ∧ e = d ∧ c = 0
 over : f = 0 → d = (if up then 9223372036854775807 else -9223372036854775808) → g = 0 ∧ e = 0 ∧ c = 15
 day : f = 0 → ¬ d = (if up then 9223372036854775807 else -9223372036854775808) → g = 0 ∧ e = (if up then d + 1 else d - 1) ∧ c = 0
end Go.Proofs.YtndjcmclmhoigaaGreatDoor
namespace Go.Proofs.YtndjcmclmhoigaaGreatDoor

/-- a run: Inf and Day of its first end, and of its last one -/
structure Rn where
 f : Int
 d : Int
 g : Int
 e : Int
def zeroR : Rn := ⟨0, 0, 0, 0⟩
/-- its days are numbers of 64 bits -/
structure Rn.In (r : Rn) : Prop where
 d0 : -9223372036854775808 ≤ r.d
 d1 : r.d ≤ 9223372036854775807
 e0 : -9223372036854775808 ≤ r.e
 e1 : r.e ≤ 9223372036854775807
def chkR (r : Rn) : Int := if chkE r.f r.d = 0 ∧ chkE r.g r.e = 0 then (if r.f = 1 ∨ r.g = -1 then 4 else if cmpE r.f r.d r.g r.e = 1 then 12 else 0) else 5
/-- where an end lies -/
def posE (f d : Int) : Int := if f = 0 then d else if f < 0 then -18446744073709551616 else 18446744073709551616
def Rn.lo (r : Rn) : Int := posE r.f r.d
def Rn.hi (r : Rn) : Int := posE r.g r.e
/-- a right run -/
structure Rn.Ok (r : Rn) : Prop extends Rn.In r where
 lof : r.f = 0 ∨ r.f = -1 ∧ r.d = 0
 hif : r.g = 0 ∨ r.g = 1 ∧ r.e = 0
 le : r.f = 0 → r.g = 0 → r.d ≤ r.e
theorem chkR_zero {r : Rn} (h : r.In) : chkR r = 0 ↔ r.Ok := by
 have c := cmpE_le r.f r.d r.g r.e
 have c1 := cmpE_one r.f r.d r.g r.e
 unfold chkR
 by_cases h1 : chkE r.f r.d = 0 ∧ chkE r.g r.e = 0
 ·rw [if_pos h1]
  rw [chkE_zero, chkE_zero] at h1
  by_cases h2 : r.f = 1 ∨ r.g = -1
  ·rw [if_pos h2]
   refine ⟨fun q => by omega, fun q => ?_⟩
   have := q.lof; have := q.hif; omega
  ·rw [if_neg h2]
   by_cases h3 : cmpE r.f r.d r.g r.e = 1
   ·rw [if_pos h3]
    refine ⟨fun q => by omega, fun q => ?_⟩
    have := q.lof; have := q.hif; have := q.le; omega
   ·rw [if_neg h3]
    refine ⟨fun _ => { h with lof := by omega, hif := by omega, le := by omega }, fun _ => rfl⟩
 ·rw [if_neg h1]
  rw [chkE_zero, chkE_zero] at h1
  refine ⟨fun q => by omega, fun q => ?_⟩
  have := q.lof; have := q.hif; omega
/-- what of a right run is known of the places of its ends -/
structure Rn.At (r : Rn) (l h : Int) : Prop where
 pl : r.f = 0 ∧ l = r.d ∧ -9223372036854775808 ≤ l ∧ l ≤ 9223372036854775807 ∨ r.f = -1 ∧ r.d = 0 ∧ l = -18446744073709551616
 ph : r.g = 0 ∧ h = r.e ∧ -9223372036854775808 ≤ h ∧ h ≤ 9223372036854775807 ∨ r.g = 1 ∧ r.e = 0 ∧ h = 18446744073709551616
 le : l ≤ h
theorem Rn.Ok.pos {r : Rn} (h : r.Ok) : r.At r.lo r.hi := by
 have h0 := h.d0
 have h1 := h.d1
 have h2 := h.e0
 have h3 := h.e1
 have a : r.f = 0 ∧ r.lo = r.d ∨ r.f = -1 ∧ r.d = 0 ∧ r.lo = -18446744073709551616 := by
  unfold Rn.lo posE
  rcases h.lof with q | q
  ·left; rw [if_pos q]; exact ⟨q, rfl⟩
  ·right; rw [if_neg (by omega), if_pos (by omega)]; exact ⟨q.1, q.2, rfl⟩
 have b : r.g = 0 ∧ r.hi = r.e ∨ r.g = 1 ∧ r.e = 0 ∧ r.hi = 18446744073709551616 := by
  unfold Rn.hi posE
  rcases h.hif with q | q
  ·left; rw [if_pos q]; exact ⟨q, rfl⟩
  ·right; rw [if_neg (by omega), if_neg (by omega)]; exact ⟨q.1, q.2, rfl⟩
 have c := h.le
 exact ⟨by omega, by omega, by omega⟩
theorem cmp_lo {a b : Rn} (ha : a.Ok) (hb : b.Ok) : cmpE a.f a.d b.f b.d = cmpI a.lo b.lo := by
 have h1 := ha.pos.pl
 have h2 := hb.pos.pl
 have := cmpE_le a.f a.d b.f b.d
 have := cmpE_zero a.f a.d b.f b.d
 have := cmpE_one a.f a.d b.f b.d
 rcases cmpI_cases a.lo b.lo with q | q | q <;> omega
theorem cmp_hi {a b : Rn} (ha : a.Ok) (hb : b.Ok) : cmpE a.g a.e b.g b.e = cmpI a.hi b.hi := by
 have h1 := ha.pos.ph
 have h2 := hb.pos.ph
 have := cmpE_le a.g a.e b.g b.e
 have := cmpE_zero a.g a.e b.g b.e
 have := cmpE_one a.g a.e b.g b.e
 rcases cmpI_cases a.hi b.hi with q | q | q <;> omega
/-- the order of runs -/
def cmpR (a b : Rn) : Int := if cmpE a.f a.d b.f b.d = 0 then cmpE a.g a.e b.g b.e else cmpE a.f a.d b.f b.d
theorem cmpR_swap (a b : Rn) : cmpR b a = -cmpR a b := by
 unfold cmpR
 rw [cmpE_swap a.f a.d b.f b.d, cmpE_swap a.g a.e b.g b.e]
 split <;> split <;> omega
theorem cmpR_zero (a b : Rn) : cmpR a b = 0 ↔ a = b := by
 have h1 := cmpE_zero a.f a.d b.f b.d
 have h2 := cmpE_zero a.g a.e b.g b.e
 unfold cmpR
 cases a; cases b
 simp only [Rn.mk.injEq] at *
 split <;> omega
/-- has a run the day, do two runs touch, have they a day in common, is the first one within the other one -/
def hasN (r : Rn) (x : Int) : Bool := decide (chkR r = 0 ∧ r.lo ≤ x ∧ x ≤ r.hi)
def touchN (a b : Rn) : Bool := decide (chkR a = 0 ∧ chkR b = 0 ∧ a.lo ≤ b.hi + 1 ∧ b.lo ≤ a.hi + 1)
def meetN (a b : Rn) : Bool := decide (chkR a = 0 ∧ chkR b = 0 ∧ a.lo ≤ b.hi ∧ b.lo ≤ a.hi)
def inN (a b : Rn) : Bool := decide (chkR a = 0 ∧ chkR b = 0 ∧ b.lo ≤ a.lo ∧ a.hi ≤ b.hi)
/-- from the first of two beginnings to the last of two ends; the other way round -/
def joinN (a b : Rn) : Rn :=
 ⟨if cmpE b.f b.d a.f a.d < 0 then b.f else a.f, if cmpE b.f b.d a.f a.d < 0 then b.d else a.d, if 0 < cmpE b.g b.e a.g a.e then b.g else a.g, if 0 < cmpE b.g b.e a.g a.e then b.e else a.e⟩
def commN (a b : Rn) : Rn :=
 ⟨if 0 < cmpE b.f b.d a.f a.d then b.f else a.f, if 0 < cmpE b.f b.d a.f a.d then b.d else a.d, if cmpE b.g b.e a.g a.e < 0 then b.g else a.g, if cmpE b.g b.e a.g a.e < 0 then b.e else a.e⟩
theorem joinN_in {a b : Rn} (ha : a.In) (hb : b.In) : (joinN a b).In := by
 have := ha.d0; have := ha.d1; have := ha.e0; have := ha.e1; have := hb.d0; have := hb.d1; have := hb.e0; have := hb.e1
 unfold joinN
 constructor <;> simp only <;> split <;> omega
theorem commN_in {a b : Rn} (ha : a.In) (hb : b.In) : (commN a b).In := by
 have := ha.d0; have := ha.d1; have := ha.e0; have := ha.e1; have := hb.d0; have := hb.d1; have := hb.e0; have := hb.e1
 unfold commN
 constructor <;> simp only <;> split <;> omega
/-- two right runs' join, its ends -/
theorem join_ok {a b : Rn} (ha : a.Ok) (hb : b.Ok) : (joinN a b).Ok ∧ (joinN a b).lo = (if b.lo < a.lo then b.lo else a.lo) ∧ (joinN a b).hi = (if a.hi < b.hi then b.hi else a.hi) := by
 have c1 := cmp_lo hb ha
 have c2 := cmp_hi hb ha
 have p := ha.pos
 have q := hb.pos
 have p1 := p.pl; have p2 := p.ph; have p3 := p.le
 have q1 := q.pl; have q2 := q.ph; have q3 := q.le
 have hi := joinN_in ha.toIn hb.toIn
 have f1 : (joinN a b).f = a.f ∧ (joinN a b).d = a.d ∧ ¬ b.lo < a.lo ∨ (joinN a b).f = b.f ∧ (joinN a b).d = b.d ∧ b.lo < a.lo := by
  unfold joinN
  simp only
  rw [c1]
  rcases cmpI_cases b.lo a.lo with h | h | h
  ·rw [h.2]; right; exact ⟨rfl, rfl, h.1⟩
  ·rw [h.2]; left; exact ⟨rfl, rfl, by have := h.1; omega⟩
  ·rw [h.2]; left; exact ⟨rfl, rfl, by have := h.1; omega⟩
 have f2 : (joinN a b).g = a.g ∧ (joinN a b).e = a.e ∧ ¬ a.hi < b.hi ∨ (joinN a b).g = b.g ∧ (joinN a b).e = b.e ∧ a.hi < b.hi := by
  unfold joinN
  simp only
  rw [c2]
  rcases cmpI_cases b.hi a.hi with h | h | h
  ·rw [h.2]; left; exact ⟨rfl, rfl, by have := h.1; omega⟩
  ·rw [h.2]; left; exact ⟨rfl, rfl, by have := h.1; omega⟩
  ·rw [h.2]; right; exact ⟨rfl, rfl, h.1⟩
 have l1 : (joinN a b).lo = (if b.lo < a.lo then b.lo else a.lo) := by
  show posE (joinN a b).f (joinN a b).d = _
  rcases f1 with q | q
  ·rw [q.1, q.2.1, if_neg q.2.2]; rfl
  ·rw [q.1, q.2.1, if_pos q.2.2]; rfl
 have l2 : (joinN a b).hi = (if a.hi < b.hi then b.hi else a.hi) := by
  show posE (joinN a b).g (joinN a b).e = _
  rcases f2 with q | q
  ·rw [q.1, q.2.1, if_neg q.2.2]; rfl
  ·rw [q.1, q.2.1, if_pos q.2.2]; rfl
 refine ⟨?_, l1, l2⟩
 exact { hi with lof := by omega, hif := by omega, le := by omega }
/-- how many days a run has: the number, the error -/
def lenN (r : Rn) : Int := if r.f = 0 ∧ r.g = 0 ∧ r.e - r.d + 1 ≤ 9223372036854775807 then r.e - r.d + 1 else 0
def lenC (r : Rn) : Int := if r.f = 0 ∧ r.g = 0 then (if r.e - r.d + 1 ≤ 9223372036854775807 then 0 else 15) else 16
end Go.Proofs.YtndjcmclmhoigaaGreatDoor
namespace Go.Proofs.YtndjcmclmhoigaaGreatDoor
open Go.RowKit

/-- a fact kept out of the walk's sight (a structure: no tactic looks through it) -/
structure Kp (p : Prop) : Prop where
 out : p
theorem ret_bool {a b : Bool} (h : a = b) : Ending.returned (.bool a) = .returned (.bool b) := by rw [h]
/-- quotients and remainders as Go has them -/
theorem tmod_of {a k : Int} (hk : 0 < k) : Int.tmod a k = if 0 ≤ a ∨ a % k = 0 then a % k else a % k - k := by
 rw [Int.tmod_eq_emod]
 by_cases h : 0 ≤ a ∨ a % k = 0
 ·rw [if_pos h, if_pos (by rcases h with h | h; exact .inl h; exact .inr (Int.dvd_of_emod_eq_zero h))]; omega
 ·rw [if_neg h, if_neg (by
   rintro (e | e)
   ·exact h (.inl e)
   ·exact h (.inr (Int.emod_eq_zero_of_dvd e)))]
  omega
end Go.Proofs.YtndjcmclmhoigaaGreatDoor
namespace Go.Proofs.YtndjcmclmhoigaaGreatDoor

def differB (a b : Int) : Bool := decide (a < 0) != decide (b < 0)
theorem differB_true {a b : Int} (h : (a < 0 ∧ 0 ≤ b) ∨ (0 ≤ a ∧ b < 0)) : differB a b = true := by
 unfold differB
 rcases h with ⟨h, g⟩ | ⟨h, g⟩
 ·rw [decide_eq_true h, decide_eq_false (by omega)]; rfl
 ·rw [decide_eq_false (by omega), decide_eq_true g]; rfl
theorem differB_false {a b : Int} (h : (a < 0 ∧ b < 0) ∨ (0 ≤ a ∧ 0 ≤ b)) : differB a b = false := by
 unfold differB
 rcases h with ⟨h, g⟩ | ⟨h, g⟩
 ·rw [decide_eq_true h, decide_eq_true g]; rfl
 ·rw [decide_eq_false (by omega), decide_eq_false (by omega)]; rfl

theorem of_differB {a b : Int} (h : differB a b = true) : (a < 0 ∧ 0 ≤ b) ∨ (0 ≤ a ∧ b < 0) := by
 by_cases c : (a < 0 ∧ b < 0) ∨ (0 ≤ a ∧ 0 ≤ b)
 ·rw [differB_false c] at h; cases h
 ·omega

end Go.Proofs.YtndjcmclmhoigaaGreatDoor
namespace Go.Proofs.YtndjcmclmhoigaaGreatDoor.R1
open Go.RowKit

theorem ret_bool {a b : Bool} (h : a = b) : Ending.returned (.bool a) = .returned (.bool b) := by rw [h]
theorem below1 (w : World) (o1 : Obj) : Below w.heap.size w (w.alloc o1) := (Below.refl _ _).alloc (Nat.le_refl _) _
theorem below2 (w : World) (o1 o2 : Obj) : Below w.heap.size w ((w.alloc o1).alloc o2) := (below1 w o1).alloc (by simp) _
theorem below3 (w : World) (o1 o2 o3 : Obj) : Below w.heap.size w (((w.alloc o1).alloc o2).alloc o3) := (below2 w o1 o2).alloc (by simp; omega) _
theorem below4 (w : World) (o1 o2 o3 o4 : Obj) : Below w.heap.size w ((((w.alloc o1).alloc o2).alloc o3).alloc o4) := (below3 w o1 o2 o3).alloc (by simp; omega) _
end Go.Proofs.YtndjcmclmhoigaaGreatDoor.R1
namespace Go.Proofs.YtndjcmclmhoigaaGreatDoor

/-- the digits of a number, the least first -/
def dg (n : Nat) : List Nat := if h : n = 0 then [] else n % 10 :: dg (n / 10)
termination_by n
decreasing_by omega
def vl : List Nat → Nat
 | [] => 0
 | d :: r => d + 10 * vl r
theorem dg_zero : dg 0 = [] := by unfold dg; simp
theorem dg_pos {n : Nat} (h : ¬ n = 0) : dg n = n % 10 :: dg (n / 10) := by rw [dg]; simp [h]
theorem vl_dg (n : Nat) : vl (dg n) = n := by
 induction n using Nat.strongRecOn with
 | _ n ih =>
  by_cases h : n = 0
  ·subst h; rw [dg_zero]; rfl
  ·rw [dg_pos h]; unfold vl; rw [ih (n / 10) (by omega)]; omega
theorem dg_le (n : Nat) : ∀ d ∈ dg n, d ≤ 9 := by
 induction n using Nat.strongRecOn with
 | _ n ih =>
  by_cases h : n = 0
  ·subst h; rw [dg_zero]; simp
  ·rw [dg_pos h]
   intro d hd
   rcases List.mem_cons.1 hd with rfl | hd
   ·omega
   ·exact ih (n / 10) (by omega) d hd
theorem dg_nil {n : Nat} : dg n = [] ↔ n = 0 := by
 constructor
 ·intro h; have := vl_dg n; rw [h] at this; exact this.symm
 ·rintro rfl; exact dg_zero
theorem dg_length_le (n k : Nat) (h : n < 10 ^ k) : (dg n).length ≤ k := by
 induction k generalizing n with
 | zero => have : n = 0 := by simpa using h
           rw [this, dg_zero]; simp
 | succ k ih =>
  by_cases e : n = 0
  ·rw [e, dg_zero]; simp
  ·rw [dg_pos e]
   have := ih (n / 10) (by rw [Nat.pow_succ] at h; omega)
   simp; omega
theorem dg_last (n : Nat) (a : List Nat) : dg n = a ++ [0] → False := by
 induction n using Nat.strongRecOn generalizing a with
 | _ n ih =>
  intro h
  by_cases e : n = 0
  ·rw [e, dg_zero] at h; simp at h
  ·rw [dg_pos e] at h
   cases a with
   | nil =>
    simp only [List.nil_append, List.cons.injEq] at h
    have := dg_nil.1 h.2
    omega
   | cons x t =>
    simp only [List.cons_append, List.cons.injEq] at h
    exact ih (n / 10) (by omega) t h.2
/-- the digit at a place, 0 behind the last one -/
def at0 (l : List Nat) (i : Nat) : Nat := l.getD i 0
/-- canonical: digits, and no zero at the end -/
def Can (l : List Nat) : Prop := (∀ d ∈ l, d ≤ 9) ∧ ∀ a, l = a ++ [0] → False
theorem Can.dg (n : Nat) : Can (dg n) := ⟨dg_le n, dg_last n⟩
end Go.Proofs.YtndjcmclmhoigaaGreatDoor
namespace Go.Proofs.YtndjcmclmhoigaaGreatDoor.R1
open Go.RowKit

/-- a slice of bytes reads as these digits -/
def Digs (w : World) (v : Value) (ds : List Nat) : Prop :=
 (v = .slice none 0 0 ∧ ds = []) ∨ ∃ b cap, v = .slice (some ⟨b, 0, none⟩) ds.length cap ∧ b < w.heap.size ∧ ds.length ≤ 1000000 ∧ ds.length ≤ cap ∧ cap ≤ maxLen ∧ ∀ i, i < ds.length → w.cell? ⟨b, i, none⟩ = some (.int .u8 (at0 ds i))
theorem Digs.below {w w' : World} {v : Value} {ds : List Nat} (h : Digs w v ds) (hb : Below w.heap.size w w') : Digs w' v ds := by
 rcases h with h | ⟨b, cap, h1, h2, h3, h4, h5, h6⟩
 ·exact .inl h
 ·exact .inr ⟨b, cap, h1, Nat.lt_of_lt_of_le h2 hb.size, h3, h4, h5, fun i hi => by rw [hb.cell (p := ⟨b, i, none⟩) h2]; exact h6 i hi⟩
theorem Digs.len {w : World} {v : Value} {ds : List Nat} (h : Digs w v ds) : ds.length ≤ 1000000 := by
 rcases h with ⟨_, rfl⟩ | ⟨_, _, _, _, h, _⟩
 ·simp
 ·exact h

theorem Digs.slice {w : World} {v : Value} {ds : List Nat} (h : Digs w v ds) (hn : 0 < ds.length) : ∃ b cap, v = .slice (some ⟨b, 0, none⟩) ds.length cap ∧ b < w.heap.size ∧ ds.length ≤ 1000000 ∧ ds.length ≤ cap ∧ cap ≤ maxLen ∧ ∀ i, i < ds.length → w.cell? ⟨b, i, none⟩ = some (.int .u8 (at0 ds i)) := by
 rcases h with ⟨_, rfl⟩ | h
 ·simp at hn
 ·exact h
theorem Digs.head {w : World} {v : Value} {ds : List Nat} (h : Digs w v ds) : ∃ a cap, v = .slice a ds.length cap := by
 rcases h with ⟨rfl, rfl⟩ | ⟨b, cap, h, _⟩
 ·exact ⟨none, 0, rfl⟩
 ·exact ⟨_, cap, h⟩
/-- a whole number is handed back, in a slice of a new block, or of one of the blocks S -/
def SomeNum (x : Int) (w : World) (S : List Nat) (e : Ending) (w' : World) : Prop :=
 (∃ a cap, e = .returned (.agg #[.bool (decide (x < 0)), .slice a (dg x.natAbs).length cap]) ∧ Digs w' (.slice a (dg x.natAbs).length cap) (dg x.natAbs) ∧ ∀ p, a = some p → w.heap.size ≤ p.block ∨ p.block ∈ S) ∧ Below w.heap.size w w'
theorem SomeNum.wide {x : Int} {w : World} {S T : List Nat} {e : Ending} {w' : World} (h : SomeNum x w S e w') (hs : ∀ b ∈ S, b ∈ T) : SomeNum x w T e w' := by
 obtain ⟨⟨a, cap, h1, h2, h3⟩, h4⟩ := h
 exact ⟨⟨a, cap, h1, h2, fun p hp => (h3 p hp).imp id (hs _)⟩, h4⟩
theorem Digs.setCell {w : World} {a : Option Addr} {n cap : Nat} {ds : List Nat} {k o : Nat} {u : Value} (h : Digs w (.slice a n cap) ds) (hk : ∀ p, a = some p → ¬ p.block = k) : Digs (w.setCell ⟨k, o, none⟩ u) (.slice a n cap) ds := by
 rcases h with h | ⟨b, c, h1, h2, h3, h4, h5, h6⟩
 ·exact .inl h
 ·cases h1
  refine .inr ⟨b, _, rfl, by simpa using h2, h3, h4, h5, fun i hi => ?_⟩
  have hne := hk _ rfl
  rw [World.cell?_setCell_other _ _ _ _ (by intro e; cases e; exact hne rfl)]
  exact h6 i hi
/-- behind the store of a struct into the block of the result -/
theorem SomeNum.stored {x : Int} {w w1 : World} {S : List Nat} {a : Option Addr} {cap k : Nat} {e : Ending} {u0 u1 : Value} (he : e = .returned (.agg #[.bool (decide (x < 0)), .slice a (dg x.natAbs).length cap]))
 (hb : Below w.heap.size w w1) (hk : w.heap.size ≤ k) (hd : Digs w1 (.slice a (dg x.natAbs).length cap) (dg x.natAbs)) (hf : ∀ p, a = some p → k < p.block ∨ p.block ∈ S) (hS : ∀ b ∈ S, b < w.heap.size) :
 SomeNum x w S e ((w1.setCell ⟨k, 0, none⟩ u0).setCell ⟨k, 1, none⟩ u1) := by
 have hne : ∀ p, a = some p → ¬ p.block = k := fun p hp e => by
  rcases hf p hp with h | h
  ·omega
  ·have := hS _ h; omega
 exact ⟨⟨a, cap, he, (hd.setCell hne).setCell hne, fun p hp => (hf p hp).imp (fun h => by omega) id⟩, (hb.setCell (p := ⟨k, 0, none⟩) hk _).setCell (p := ⟨k, 1, none⟩) hk _⟩
end Go.Proofs.YtndjcmclmhoigaaGreatDoor.R1
namespace Go.Proofs.YtndjcmclmhoigaaGreatDoor.R1
open Go.RowKit

def vs (l : List Nat) : List Value := l.map fun (d : Nat) => Value.int .u8 (d : Int)
theorem vs_snoc (l : List Nat) (d : Nat) : vs (l ++ [d]) = vs l ++ [.int .u8 d] := by simp [vs]
theorem grown_set (W : World) (p : Addr) (v : Value) : W.grownBy (W.setCell p v) (some p.block) :=
 ⟨rfl, rfl, rfl, (Below.setCell (Below.refl 0 W) (p := p) (Nat.zero_le _) v).size, fun k _ hk => Below.heap_setCell _ _ _ k (fun e => hk (by rw [e]))⟩
end Go.Proofs.YtndjcmclmhoigaaGreatDoor.R1
namespace Go.Proofs.YtndjcmclmhoigaaGreatDoor.R1
open Go.RowKit

/-- what the loop of a sum (a difference) leaves: the digits so far, in the own block k; the argument blocks as they were -/
structure SumRel (k : Nat) (neg : Bool) (w0 : World) (ds : List Nat) (v : Value) (wr : World) : Prop where
 below : Below k w0 wr
 size : k < wr.heap.size
 c0 : wr.cell? ⟨k, 0, none⟩ = some (.bool neg)
 c1 : wr.cell? ⟨k, 1, none⟩ = some v
 f0 : wr.frozen? ⟨k, 0, none⟩ = false
 f1 : wr.frozen? ⟨k, 1, none⟩ = false
 own : wr.ownsRow (k + 1) 5 1 v ds.length (vs ds)
theorem SumRel.round {k : Nat} {neg : Bool} {w0 wr wa w' : World} {ds : List Nat} {v v' : Value} (R : SumRel k neg w0 ds v wr) (ha : Below wr.heap.size wr wa) (hg : wa.grownBy w' v.ownBlock) (d : Nat) (hown' : w'.ownsRow (k + 1) 5 1 v' (ds.length + 1) (vs ds ++ [.int .u8 d])) :
 SumRel k neg w0 (ds ++ [d]) v' (w'.setCell ⟨k, 1, none⟩ v') ∧ w'.cell? ⟨k, 1, none⟩ = some v ∧ w'.frozen? ⟨k, 1, none⟩ = false := by
 obtain ⟨hbl, hsz, hc0, hc1, hf0, hf1, hown⟩ := R
 have h2 : Below (k + 1) wr w' := (ha.mono (by omega)).grown hg (by have := ha.size; omega) (fun j hj => (hown.lt j hj).1)
 have k0 : w'.cell? ⟨k, 0, none⟩ = some (.bool neg) := by rw [h2.cell (p := ⟨k, 0, none⟩) (by simp)]; exact hc0
 have k1 : w'.cell? ⟨k, 1, none⟩ = some v := by rw [h2.cell (p := ⟨k, 1, none⟩) (by simp)]; exact hc1
 have g0 : w'.frozen? ⟨k, 0, none⟩ = false := by rw [h2.frozen (p := ⟨k, 0, none⟩) (by simp)]; exact hf0
 have g1 : w'.frozen? ⟨k, 1, none⟩ = false := by rw [h2.frozen (p := ⟨k, 1, none⟩) (by simp)]; exact hf1
 refine ⟨⟨(hbl.trans (h2.mono (by omega))).setCell (p := ⟨k, 1, none⟩) (by simp) _, ?_, ?_, World.cell?_setCell_same _ _ _ k1, ?_, ?_, ?_⟩, k1, g1⟩
 ·have := h2.size; simp; omega
 ·rw [World.cell?_setCell_other _ _ _ _ (by intro e; cases e)]; exact k0
 ·simp [go_sem, g0]
 ·simp [go_sem, g1]
 ·rw [vs_snoc, List.length_append]
  exact hown'.kept (grown_set _ ⟨k, 1, none⟩ _) (by
   have := hown'.lt
   cases e : v'.ownBlock with
   | none => exact .inl rfl
   | some j => exact .inr (fun h => by cases h; have h3 : k + 1 ≤ k := (this _ e).1; omega))
end Go.Proofs.YtndjcmclmhoigaaGreatDoor.R1
namespace Go.Proofs.YtndjcmclmhoigaaGreatDoor.R1
open Go.RowKit

theorem decDigits_dg (u : Nat) (h : 0 < u) : Lib.decDigits u = (dg u).reverse.map fun d => UInt8.ofNat (48 + d) := by
 induction u using Nat.strongRecOn with
 | _ u ih =>
  rw [Lib.decDigits, dg_pos (by omega)]
  by_cases g : u < 10
  ·rw [dif_pos g, show u / 10 = 0 from by omega, dg_zero, show u % 10 = u from by omega]; rfl
  ·rw [dif_neg g, ih (u / 10) (by omega) (by omega)]; simp
end Go.Proofs.YtndjcmclmhoigaaGreatDoor.R1
namespace Go.Proofs.YtndjcmclmhoigaaGreatDoor

def cs10 : List UInt8 := [48, 49, 50, 51, 52, 53, 54, 55, 56, 57]
def textB (l : List UInt8) : Bool := l == [48] || (match Lib.trimPrefix l [45] with
 | [] => false
 | c :: r => (c.toNat : Int) != 48 && (Lib.trimS (c :: r) cs10).isEmpty)
/-! ## What a text says, as plain mathematics -/
def valM (acc : Nat) : List UInt8 → Nat
 | [] => acc
 | c :: r => valM (acc * 10 + (c.toNat - 48)) r
def dig (c : UInt8) : Prop := 48 ≤ c.toNat ∧ c.toNat ≤ 57
theorem valM_ge (l : List UInt8) : ∀ acc, acc ≤ valM acc l := by
 induction l with
 | nil => intro acc; exact Nat.le_refl _
 | cons c r ih => intro acc; have := ih (acc * 10 + (c.toNat - 48)); unfold valM; omega
theorem parseUintM_nil (acc : Nat) : Lib.parseUintM 18446744073709551615 acc [] = .ok acc := by rw [Lib.parseUintM]
theorem parseUintM_val (l : List UInt8) : ∀ acc, acc ≤ 18446744073709551615 → (∀ c ∈ l, dig c) →
 Lib.parseUintM 18446744073709551615 acc l = if valM acc l ≤ 18446744073709551615 then .ok (valM acc l) else .range := by
 induction l with
 | nil => intro acc ha _; rw [parseUintM_nil]; exact (if_pos ha).symm
 | cons c r ih =>
  intro acc ha hd
  have hc := hd c (by simp)
  have hg := valM_ge r (acc * 10 + (c.toNat - 48))
  unfold dig at hc
  have e : valM acc (c :: r) = valM (acc * 10 + (c.toNat - 48)) r := rfl
  rw [e, Lib.parseUintM, if_pos hc]
  by_cases h1 : 1844674407370955162 ≤ acc
  ·rw [if_pos h1, if_neg (by omega)]
  ·rw [if_neg h1]
   by_cases h2 : 18446744073709551615 < acc * 10 + (c.toNat - 48)
   ·rw [if_pos h2, if_neg (by omega)]
   ·rw [if_neg h2]
    exact ih _ (by omega) (fun x hx => hd x (by simp [hx]))
def textVal : List UInt8 → Int
 | [] => 0
 | c :: r => if c.toNat = 45 then -(valM 0 r : Int) else valM 0 (c :: r)
theorem textVal_minus (r : List UInt8) : textVal (45 :: r) = -(valM 0 r : Int) := by simp [textVal]
theorem textVal_plain (c : UInt8) (r : List UInt8) (h : ¬ c.toNat = 45) : textVal (c :: r) = (valM 0 (c :: r) : Int) := if_neg h
/-- the form of a text -/
def Form (l : List UInt8) : Prop := l = [48] ∨ ∃ c r, (l = c :: r ∨ l = 45 :: c :: r) ∧ ¬ c.toNat = 48 ∧ ∀ x ∈ c :: r, dig x
theorem cs10_iff (c : UInt8) : cs10.contains c = true ↔ dig c := by
 unfold cs10 dig
 simp only [List.contains_eq_mem, decide_eq_true_eq, List.mem_cons, List.not_mem_nil, or_false, ← UInt8.toNat_inj]
 simp
 omega
theorem dropWhile_nil {p : UInt8 → Bool} {l : List UInt8} : l.dropWhile p = [] ↔ ∀ x ∈ l, p x = true := by
 induction l with
 | nil => simp
 | cons a r ih =>
  rw [List.dropWhile_cons]
  cases h : p a with
  | true => simp [h, ih]
  | false => simp [h]
theorem dropWhile_all {p : UInt8 → Bool} {l : List UInt8} (h : ∀ x ∈ l.dropWhile p, p x = true) : l.dropWhile p = [] := by
 induction l with
 | nil => rfl
 | cons a r ih =>
  rw [List.dropWhile_cons] at h ⊢
  cases g : p a with
  | true => rw [g] at h; exact ih (by simpa using h)
  | false => rw [g] at h; have := h a (by simp); rw [g] at this; cases this
theorem trimS_nil (l : List UInt8) : (Lib.trimS l cs10).isEmpty = true ↔ ∀ x ∈ l, dig x := by
 unfold Lib.trimS Lib.trimLeftS Lib.trimRightS
 rw [List.isEmpty_iff]
 constructor
 ·intro h
  have h1 := dropWhile_nil.1 h
  have h2 : l.reverse.dropWhile (cs10.contains ·) = [] := dropWhile_all (fun x hx => h1 x (by simpa using hx))
  have h3 := dropWhile_nil.1 h2
  exact fun x hx => (cs10_iff x).1 (h3 x (by simpa using hx))
 ·intro h
  have h2 : l.reverse.dropWhile (cs10.contains ·) = [] := dropWhile_nil.2 (fun x hx => (cs10_iff x).2 (h x (by simpa using hx)))
  rw [h2]; rfl
theorem trimPrefix_minus (r : List UInt8) : Lib.trimPrefix (45 :: r) [45] = r := by
 simp [Lib.trimPrefix, Lib.hasPrefix]
theorem trimPrefix_other (c : UInt8) (r : List UInt8) (h : ¬ c.toNat = 45) : Lib.trimPrefix (c :: r) [45] = c :: r := by
 have : ¬ c = 45 := fun e => h (by rw [e]; rfl)
 simp [Lib.trimPrefix, Lib.hasPrefix]
 exact fun e => absurd e (by first | exact this | exact fun g => this g.symm)
theorem textB_iff (l : List UInt8) : textB l = true ↔ Form l := by
 have body : ∀ c r, ((c.toNat : Int) != 48 && (Lib.trimS (c :: r) cs10).isEmpty) = true ↔ ¬ c.toNat = 48 ∧ ∀ x ∈ c :: r, dig x := by
  intro c r
  rw [Bool.and_eq_true, trimS_nil, bne_iff_ne]
  constructor
  ·exact fun h => ⟨fun e => h.1 (by omega), h.2⟩
  ·exact fun h => ⟨fun e => h.1 (by omega), h.2⟩
 unfold textB Form
 rw [Bool.or_eq_true]
 constructor
 ·rintro (h | h)
  ·exact .inl (by simpa using h)
  ·right
   cases l with
   | nil => simp [Lib.trimPrefix, Lib.hasPrefix] at h
   | cons a t =>
    by_cases ha : a.toNat = 45
    ·have e : a = 45 := UInt8.toNat_inj.1 ha
     subst e
     rw [trimPrefix_minus] at h
     cases t with
     | nil => cases h
     | cons c r => exact ⟨c, r, .inr rfl, (body c r).1 h⟩
    ·rw [trimPrefix_other a t ha] at h
     exact ⟨a, t, .inl rfl, (body a t).1 h⟩
 ·rintro (h | ⟨c, r, h, hb⟩)
  ·exact .inl (by simp [h])
  ·right
   rcases h with rfl | rfl
   ·rw [trimPrefix_other c r (by have := hb.2 c (by simp); unfold dig at this; omega)]
    exact (body c r).2 hb
   ·rw [trimPrefix_minus]
    exact (body c r).2 hb
theorem parse_val (l : List UInt8) (h : Form l) : Lib.parseIntB 64 l = if -9223372036854775808 ≤ textVal l ∧ textVal l ≤ 9223372036854775807 then .ok (textVal l) else .range := by
 have key : ∀ c r, (∀ x ∈ c :: r, dig x) → Lib.parseUintB 64 (c :: r) = if valM 0 (c :: r) ≤ 18446744073709551615 then .ok (valM 0 (c :: r)) else .range := by
  intro c r hd
  have e : Lib.parseUintB 64 (c :: r) = Lib.parseUintM 18446744073709551615 0 (c :: r) := rfl
  rw [e]
  exact parseUintM_val _ 0 (by omega) hd
 have pos : ∀ c r, (∀ x ∈ c :: r, dig x) → Lib.parseIntB 64 (c :: r) = if -9223372036854775808 ≤ textVal (c :: r) ∧ textVal (c :: r) ≤ 9223372036854775807 then .ok (textVal (c :: r)) else .range := by
  intro c r hd
  have hc := hd c (by simp)
  unfold dig at hc
  rw [Lib.parseIntB_plain 64 c r (by omega) (by omega), key c r hd]
  have e : textVal (c :: r) = valM 0 (c :: r) := if_neg (by omega)
  rw [e]
  by_cases h1 : valM 0 (c :: r) ≤ 18446744073709551615
  ·rw [if_pos h1]
   by_cases h2 : 9223372036854775808 ≤ valM 0 (c :: r)
   ·rw [if_neg (by omega)]
    show (if 2 ^ (64 - 1) ≤ _ then _ else _) = _
    rw [if_pos (by simpa using h2)]
   ·rw [if_pos (by omega)]
    show (if 2 ^ (64 - 1) ≤ _ then _ else _) = _
    rw [if_neg (by simpa using h2)]
  ·rw [if_neg h1, if_neg (by omega)]
   rfl
 rcases h with rfl | ⟨c, r, rfl | rfl, hb⟩
 ·exact pos 48 [] (by intro x hx; simp at hx; subst hx; unfold dig; decide)
 ·exact pos c r hb.2
 ·rw [Lib.parseIntB_minus, key c r hb.2]
  have e : textVal (45 :: c :: r) = -(valM 0 (c :: r) : Int) := textVal_minus _
  rw [e]
  by_cases h1 : valM 0 (c :: r) ≤ 18446744073709551615
  ·rw [if_pos h1]
   by_cases h2 : 9223372036854775808 < valM 0 (c :: r)
   ·rw [if_neg (by omega)]
    show (if 2 ^ (64 - 1) < _ then _ else _) = _
    rw [if_pos (by simpa using h2)]
   ·rw [if_pos (by omega)]
    show (if 2 ^ (64 - 1) < _ then _ else _) = _
    rw [if_neg (by simpa using h2)]
  ·rw [if_neg h1, if_neg (by omega)]
   rfl
end Go.Proofs.YtndjcmclmhoigaaGreatDoor
namespace Go.Proofs.YtndjcmclmhoigaaGreatDoor.R1
open Go.RowKit

theorem valM_append (a b : List UInt8) : ∀ acc, valM acc (a ++ b) = valM (valM acc a) b := by
 induction a with
 | nil => intro acc; rfl
 | cons x t ih => intro acc; exact ih _
theorem valM_one (acc : Nat) (c : UInt8) : valM acc [c] = acc * 10 + (c.toNat - 48) := rfl
theorem digit_nat (d : Nat) (h : d ≤ 9) : (UInt8.ofNat (48 + d)).toNat = 48 + d := by
 rw [UInt8.toNat_ofNat']; omega
/-- the text of a number is a text, and says the number -/
theorem valM_map (l : List Nat) (h : ∀ d ∈ l, d ≤ 9) : valM 0 (l.reverse.map fun d => UInt8.ofNat (48 + d)) = vl l := by
 induction l with
 | nil => rfl
 | cons d r ih =>
  have hd := h d (by simp)
  have hr := ih (fun x hx => h x (by simp [hx]))
  rw [List.reverse_cons, List.map_append, valM_append, hr]
  show valM (vl r) [UInt8.ofNat (48 + d)] = d + 10 * vl r
  rw [valM_one, digit_nat d hd]
  omega
theorem itoa_pos (n : Nat) (h : 0 < n) : (dg n).reverse.map (fun d => UInt8.ofNat (48 + d)) ≠ [] ∧ valM 0 ((dg n).reverse.map fun d => UInt8.ofNat (48 + d)) = n ∧ (∀ c ∈ (dg n).reverse.map (fun d => UInt8.ofNat (48 + d)), dig c) ∧ ∀ c r, (dg n).reverse.map (fun d => UInt8.ofNat (48 + d)) = c :: r → ¬ c.toNat = 48 := by
 refine ⟨?_, ?_, ?_, ?_⟩
 ·intro e
  have : dg n = [] := by simpa using e
  have := dg_nil.1 this; omega
 ·rw [valM_map _ (dg_le n), vl_dg]
 ·intro c hc
  simp only [List.mem_map, List.mem_reverse] at hc
  obtain ⟨d, hd, rfl⟩ := hc
  have := dg_le n d hd
  have e := digit_nat d this
  unfold dig; rw [e]; omega
 ·intro c r e
  rcases List.eq_nil_or_concat (dg n) with g | ⟨a, d, g⟩
  ·have := dg_nil.1 g; omega
  ·rw [g] at e
   simp only [List.concat_eq_append, List.reverse_append, List.reverse_cons, List.reverse_nil, List.nil_append, List.cons_append, List.map_cons, List.cons.injEq] at e
   have hd : ¬ d = 0 := fun z => dg_last n a (by rw [g, z, List.concat_eq_append])
   have hl := dg_le n d (by rw [g]; simp)
   rw [← e.1]
   have e2 := digit_nat d hl
   omega
theorem itoa_form (n : Int) : Form (Lib.itoa n) ∧ textVal (Lib.itoa n) = n ∧ (Lib.itoa n).length ≤ 1 + (dg n.natAbs).length + 1 := by
 by_cases h0 : n = 0
 ·subst h0
  have : Lib.itoa 0 = [48] := by unfold Lib.itoa; rw [if_neg (by decide), Lib.decDigits]; rfl
  rw [this]
  exact ⟨.inl rfl, by decide, by simp⟩
 ·have hp := itoa_pos n.natAbs (by omega)
  obtain ⟨h1, h2, h3, h4⟩ := hp
  have hlen : ((dg n.natAbs).reverse.map fun d => UInt8.ofNat (48 + d)).length = (dg n.natAbs).length := by simp
  unfold Lib.itoa
  by_cases hn : n < 0
  ·rw [if_pos hn, decDigits_dg _ (by omega)]
   generalize (dg n.natAbs).reverse.map (fun d => UInt8.ofNat (48 + d)) = L at *
   cases L with
   | nil => exact absurd rfl h1
   | cons c r =>
    refine ⟨.inr ⟨c, r, .inr rfl, h4 c r rfl, h3⟩, ?_, by simp at hlen ⊢; omega⟩
    rw [textVal_minus, h2]; omega
  ·rw [if_neg hn, show n.toNat = n.natAbs from by omega, decDigits_dg _ (by omega)]
   generalize (dg n.natAbs).reverse.map (fun d => UInt8.ofNat (48 + d)) = L at *
   cases L with
   | nil => exact absurd rfl h1
   | cons c r =>
    have hc := h3 c (by simp)
    unfold dig at hc
    refine ⟨.inr ⟨c, r, .inl rfl, h4 c r rfl, h3⟩, ?_, by simp at hlen ⊢; omega⟩
    rw [textVal_plain c r (by omega), h2]; omega

end Go.Proofs.YtndjcmclmhoigaaGreatDoor.R1
namespace Go.Proofs.YtndjcmclmhoigaaGreatDoor

def infL : List UInt8 := [105, 110, 102]
def minfL : List UInt8 := [45, 105, 110, 102]
def textE (f d : Int) : List UInt8 := if f < 0 then minfL else if 0 < f then infL else Lib.itoa d
/-- what is read: Inf, Day, the error -/
structure ParE (l : List UInt8) (f d c : Int) : Prop where
 inf : l = infL → f = 1 ∧ d = 0 ∧ c = 0
 minf : l = minfL → f = -1 ∧ d = 0 ∧ c = 0
 fits : ¬ l = infL → ¬ l = minfL → Form l → (-9223372036854775808 ≤ textVal l ∧ textVal l ≤ 9223372036854775807) → f = 0 ∧ d = textVal l ∧ c = 0
 over : ¬ l = infL → ¬ l = minfL → Form l → ¬ (-9223372036854775808 ≤ textVal l ∧ textVal l ≤ 9223372036854775807) → f = 0 ∧ d = 0 ∧ c = 15
 no : ¬ l = infL → ¬ l = minfL → ¬ Form l → f = 0 ∧ d = 0 ∧ c = 5
theorem par_is (l : List UInt8) : ∃ f d c, ParE l f d c := by
 by_cases h1 : l = infL
 ·exact ⟨1, 0, 0, fun _ => ⟨rfl, rfl, rfl⟩, fun h => by rw [h1] at h; revert h; decide, fun x => absurd h1 x, fun x => absurd h1 x, fun x => absurd h1 x⟩
 ·by_cases h2 : l = minfL
  ·exact ⟨-1, 0, 0, fun x => absurd x h1, fun _ => ⟨rfl, rfl, rfl⟩, fun _ x => absurd h2 x, fun _ x => absurd h2 x, fun _ x => absurd h2 x⟩
  ·by_cases h3 : Form l
   ·by_cases h4 : -9223372036854775808 ≤ textVal l ∧ textVal l ≤ 9223372036854775807
    ·exact ⟨0, textVal l, 0, fun x => absurd x h1, fun x => absurd x h2, fun _ _ _ _ => ⟨rfl, rfl, rfl⟩, fun _ _ _ x => absurd h4 x, fun _ _ x => absurd h3 x⟩
    ·exact ⟨0, 0, 15, fun x => absurd x h1, fun x => absurd x h2, fun _ _ _ x => absurd x h4, fun _ _ _ _ => ⟨rfl, rfl, rfl⟩, fun _ _ x => absurd h3 x⟩
   ·exact ⟨0, 0, 5, fun x => absurd x h1, fun x => absurd x h2, fun _ _ x => absurd x h3, fun _ _ x => absurd x h3, fun _ _ _ => ⟨rfl, rfl, rfl⟩⟩
theorem inf_form : ¬ Form infL ∧ ¬ Form minfL := by
 constructor <;> rintro (h | ⟨c, r, h | h, _, hd⟩)
 ·revert h; decide
 ·have := hd 105 (by rw [← h]; decide)
  revert this; unfold dig; decide
 ·have h2 : (105 : UInt8) = 45 := congrArg (fun l => l.getD 0 0) h
  revert h2; decide
 ·revert h; decide
 ·have := hd 45 (by rw [← h]; decide)
  revert this; unfold dig; decide
 ·have h2 := List.tail_eq_of_cons_eq h
  have := hd 105 (by rw [← h2]; decide)
  revert this; unfold dig; decide
/-- the text of a right end is read as the end -/
theorem text_again {f d : Int} (h : chkE f d = 0) (d0 : -9223372036854775808 ≤ d) (d1 : d ≤ 9223372036854775807) : ParE (textE f d) f d 0 := by
 have hc := chkE_zero.1 h
 obtain ⟨g, e, c, hp⟩ := par_is (textE f d)
 have key : g = f ∧ e = d ∧ c = 0 := by
  rcases hc with rfl | ⟨rfl | rfl, rfl⟩
  ·have ht : textE 0 d = Lib.itoa d := by unfold textE; rw [if_neg (by decide), if_neg (by decide)]
   obtain ⟨h1, h2, _⟩ := R1.itoa_form d
   rw [ht] at hp
   have n1 : ¬ Lib.itoa d = infL := fun x => inf_form.1 (by rw [← x]; exact h1)
   have n2 : ¬ Lib.itoa d = minfL := fun x => inf_form.2 (by rw [← x]; exact h1)
   have := hp.fits n1 n2 h1 (by rw [h2]; exact ⟨d0, d1⟩)
   rw [h2] at this
   exact this
  ·exact hp.inf rfl
  ·exact hp.minf rfl
 obtain ⟨rfl, rfl, rfl⟩ := key
 exact hp
theorem textE_len {f d : Int} (d0 : -9223372036854775808 ≤ d) (d1 : d ≤ 9223372036854775807) : (textE f d).length ≤ 60 := by
 unfold textE
 split
 ·decide
 ·split
  ·decide
  ·have h := (R1.itoa_form d).2.2
   have hn := dg_length_le d.natAbs 19 (by omega)
   omega
end Go.Proofs.YtndjcmclmhoigaaGreatDoor
namespace Go.Proofs.YtndjcmclmhoigaaGreatDoor
open Go.RowKit
set_option maxRecDepth 100000

/-- a string of these bytes -/
def bs (l : List UInt8) : ByteArray := ⟨l.toArray⟩
theorem bs_size (l : List UInt8) : (bs l).size = l.length := by show l.toArray.size = _; simp
theorem bs_app (a b : List UInt8) : bs a ++ bs b = bs (a ++ b) := by
 apply ByteArray.ext
 rw [ByteArray.data_append]
 show a.toArray ++ b.toArray = (a ++ b).toArray
 simp
theorem bs_inj {a b : List UInt8} : bs a = bs b ↔ a = b := by
 constructor
 ·intro h
  have := congrArg (fun s : ByteArray => s.data.toList) h
  simpa [bs] using this
 ·intro h; rw [h]
theorem add_bs {a b : List UInt8} (h : a.length + b.length ≤ 1000) (w : World) : (Op.stringOp .add (bs a) (bs b)).run Tryz.prog w = .ok (.string (bs (a ++ b))) w := by
 have := run_string_add_sum (P := Tryz.prog) w (bs a) (bs b) (by rw [bs_size, bs_size]; omega)
 rw [bs_app] at this
 exact this
end Go.Proofs.YtndjcmclmhoigaaGreatDoor
namespace Go.Proofs.YtndjcmclmhoigaaGreatDoor
open Go.RowKit

/-- n numbers as the model holds them -/
def cln (n : Nat) (f : Nat → Int) : Array Value := ((List.range n).map fun k => Value.int .i64 (f k)).toArray
theorem cln_size (n : Nat) (f : Nat → Int) : (cln n f).size = n := by unfold cln; simp
theorem cln_get {n : Nat} {f : Nat → Int} {k : Nat} (h : k < n) : (cln n f)[k]? = some (.int .i64 (f k)) := by
 unfold cln
 rw [List.getElem?_toArray, List.getElem?_map, List.getElem?_range h]; rfl
theorem cln_congr {n : Nat} {f g : Nat → Int} (h : ∀ k, k < n → f k = g k) : cln n f = cln n g := by
 unfold cln
 congr 1
 apply List.map_congr_left
 intro k hk
 rw [h k (List.mem_range.1 hk)]
theorem cln_set {n : Nat} {f : Nat → Int} {i : Nat} {v : Int} (h : i < n) : (cln n f).setIfInBounds i (.int .i64 v) = cln n (fun k => if k = i then v else f k) := by
 apply Array.ext_getElem?
 intro k
 rw [Array.getElem?_setIfInBounds]
 by_cases hk : k < n
 ·rw [cln_get hk]
  by_cases e : i = k
  ·subst e; rw [if_pos rfl, if_pos (by rw [cln_size]; exact h), cln_get h, if_pos rfl]
  ·rw [if_neg e, cln_get hk, if_neg (fun x => e x.symm)]
 ·have h1 : (cln n fun k => if k = i then v else f k)[k]? = none := by rw [Array.getElem?_eq_none_iff, cln_size]; omega
  rw [h1]
  by_cases e : i = k
  ·omega
  ·rw [if_neg e, Array.getElem?_eq_none_iff, cln_size]; omega
theorem wpList_store_row' {P : Program} {ops : Array Oper} {rest : List Oper} {o : Oper} {a : Act} {w : World} {Q : Exit → Act → World → Prop} (hgd : o.guard = none) (ty : TypeId) (x y : Operand) (ho : o.op = .store ty x y)
 (g : Nat) (cells : Array Value) (hx : a.eval x = .pointer (some ⟨g, 0, none⟩)) (hy : a.eval y = .agg cells)
 (t : TypeId) (old : Array Value) (hg : w.heap[g]? = some (.cells old t (0, 0))) (hi : (P.info? ty).map (·.size) = some cells.size)
 (hold : old.size = cells.size) (h1 : cells.all (·.oneCell') = true)
 (h : wpList P ops Q rest (a.put o.dst undef) (w.setRow g cells)) : wpList P ops Q (o :: rest) a w :=
 wpList_plain hgd fun _ hK => wp_store_row ty x y ho g cells hx hy t old hg hi hold h1 (hK _ _ h)
/-- block g holds these numbers -/
structure Row (W : World) (g : Nat) (t : TypeId) (n : Nat) (f : Nat → Int) : Prop where
 heap : W.heap[g]? = some (.cells (cln n f) t (0, 0))
variable {W W' : World} {g : Nat} {t : TypeId} {n : Nat} {f : Nat → Int}
theorem Row.lt (h : Row W g t n f) : g < W.heap.size := (Array.getElem?_eq_some_iff.1 h.heap).1
theorem Row.cell (h : Row W g t n f) {k : Nat} (hk : k < n) : W.cell? ⟨g, k, none⟩ = some (.int .i64 (f k)) := by
 rw [cell_of_row W g k _ t _ h.heap, cln_get hk]
theorem Row.frozen (h : Row W g t n f) (k : Nat) : W.frozen? ⟨g, k, none⟩ = false := frozen_of_row W g k _ t h.heap
theorem Row.step (h : Row W g t n f) (hb : Below W.heap.size W W') : Row W' g t n f := ⟨by rw [hb.block g h.lt]; exact h.heap⟩
theorem Row.congr (h : Row W g t n f) {f' : Nat → Int} (e : ∀ k, k < n → f k = f' k) : Row W g t n f' := ⟨by rw [h.heap, cln_congr e]⟩
theorem Row.set (h : Row W g t n f) {i : Nat} (hi : i < n) (v : Int) : Row (W.setCell ⟨g, i, none⟩ (.int .i64 v)) g t n (fun k => if k = i then v else f k) :=
 ⟨by rw [heap_setCell_same W g i _ t _ h.heap, cln_set hi]⟩
theorem Row.other (h : Row W g t n f) (a : Addr) (v : Value) (hne : g ≠ a.block) : Row (W.setCell a v) g t n f :=
 ⟨by rw [heap_setCell_other W a g v hne]; exact h.heap⟩
theorem Row.setRow (h : Row W g t n f) (f' : Nat → Int) : Row (W.setRow g (cln n f')) g t n f' := ⟨setRow_heap W g _ _ t _ h.heap⟩
end Go.Proofs.YtndjcmclmhoigaaGreatDoor
namespace Go.Proofs.YtndjcmclmhoigaaGreatDoor
open Go.RowKit

/-- two results, the first a struct in a block -/
theorem results_cell_tmp {P : Program} {fn : Func} {p u : Tmp} {ty : TypeId} (h : fn.results = #[.cell p ty, .tmp u]) (tmps : Array Value) (w : World) (g : Nat) (t : TypeId) (cs : Array Value) (fr : Nat × Nat) (d : TypeDesc)
 (hp : tmps.getD p undef = .pointer (some ⟨g, 0, none⟩)) (hg : w.heap[g]? = some (.cells cs t fr))
 (hu : P.underlying ty = some d) (hd : (match d with | .struct _ | .array _ _ => true | _ => false) = true) (hi : (P.info? ty).map (·.size) = some cs.size) :
 (results fn tmps).run P w = .ok (.tuple #[.agg cs, tmps.getD u undef]) w := by
 have hp' : tmps[p]?.getD undef = .pointer (some ⟨g, 0, none⟩) := by simpa using hp
 simp [results, h, hp', asAddr, run_loadVar_row w g t ty cs fr d hg hu hd hi]
end Go.Proofs.YtndjcmclmhoigaaGreatDoor
namespace Go.Proofs.YtndjcmclmhoigaaGreatDoor
open Go.RowKit

/-- rows of numbers at blocks, as every world of a loop has them -/
structure Nums (w : World) (g : Nat) (l : List Int) (W : World) : Prop where
 below : Below w.heap.size w W
 size : g < W.heap.size
 ints : ∀ i, i < l.length → W.cell? ⟨g, i, none⟩ = some (.int .i64 (l.getD i 0))
theorem Nums.step {w W W' : World} {g : Nat} {l : List Int} (h : Nums w g l W) (hb : Below W.heap.size W W') : Nums w g l W' :=
 ⟨h.below.trans (hb.mono h.below.size), by have := hb.size; have := h.size; omega, fun i hi => by rw [hb.cell (p := ⟨g, i, none⟩) h.size]; exact h.ints i hi⟩
structure Bl (w W : World) : Prop where
 below : Below w.heap.size w W
theorem Bl.step {w W W' : World} (h : Bl w W) (hb : Below W.heap.size W W') : Bl w W' := ⟨h.below.trans (hb.mono h.below.size)⟩
end Go.Proofs.YtndjcmclmhoigaaGreatDoor
