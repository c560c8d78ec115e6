/-
 DERIVED. TWO NUMBERS COMPARED. No program.
 DERIVED. ENDS AS NUMBERS: which are right, their order, the next ones. No program.
 DERIVED. RUNS AS NUMBERS: which are right, their days, what they make together and have in common. No program.
 DERIVED. What all walks of this seat share: a fact kept out of the walk's sight; how results are told alike; quotients and remainders.
 DERIVED. PLAIN MATHEMATICS of layer 1 (ints): quotients that round down, and remainders. Nothing of the program.
 DERIVED. PLAIN MATHEMATICS of decimal digits, the least first. Nothing of the program.
 DERIVED. PLAIN MATHEMATICS of texts of numbers. Nothing of the program.
 DERIVED. STRINGS as lists of bytes.
 DERIVED. ARRAYS OF NUMBERS, held by value and in memory: n numbers, as a function of their index says.
 DERIVED. RESULTS that lie in blocks: a struct and a number.
 DERIVED. Rows of numbers that a walk has laid, as every world behind them has them.
 DERIVED. Blocks made one behind another: what was there stays.
 DERIVED. CONTRACTS of package ints that later layers call: differ.
-/
import Derived.Test.YteddfolhpoikcaaGreatDoorRows
import Derived.Test.YteddfolhpoikcaaGreatDoorProg
import Derived.WalkKit
import Derived.WalkSpells
import Derived.WalkLawsBesides
import Derived.Lib.ParseIntB
import Derived.Lib.ParseIntBCases
import Derived.Lib.SlTrimSet
import Derived.Lib.Strings
import Derived.Lib.ItoaNum
import Derived.WalkSmall
import Derived.Laws.Strings
import Derived.Laws.Concat
import Derived.Laws.RangeAny
import Derived.Laws.CopyOwn
import Derived.Laws.Externs
import Derived.Laws.Rows
import Derived.ProofKit
import Derived.OwnWalk
import Derived.Lib.Hide
import Derived.BigQuiet
import Derived.Deep.QuietTactic
namespace Go.Proofs.YteddfolhpoikcaaGreatDoor

/-- the order -/
def cmpI (a b : Int) : Int := if a < b then -1 else if b < a then 1 else 0
theorem cmpI_cases (a b : Int) : (a < b ∧ cmpI a b = -1) ∨ (a = b ∧ cmpI a b = 0) ∨ (b < a ∧ cmpI a b = 1) := by
 unfold cmpI
 by_cases h : a < b
 ·left; exact ⟨h, if_pos h⟩
 ·rw [if_neg h]
  by_cases g : b < a
  ·right; right; exact ⟨g, if_pos g⟩
  ·right; left; exact ⟨by omega, if_neg g⟩
theorem cmpI_swap (a b : Int) : cmpI b a = -cmpI a b := by
 rcases cmpI_cases a b with h | h | h <;> rcases cmpI_cases b a with g | g | g <;> first | (exfalso; omega) | simp [h.2, g.2]
end Go.Proofs.YteddfolhpoikcaaGreatDoor
namespace Go.Proofs.YteddfolhpoikcaaGreatDoor

def chkE (f d : Int) : Int := if f = 0 ∨ (f = 1 ∨ f = -1) ∧ d = 0 then 0 else 5
def cmpE (f d g e : Int) : Int := if cmpI f g = 0 then cmpI d e else cmpI f g
theorem chkE_zero {f d : Int} : chkE f d = 0 ↔ f = 0 ∨ (f = 1 ∨ f = -1) ∧ d = 0 := by
 unfold chkE
 by_cases h : f = 0 ∨ (f = 1 ∨ f = -1) ∧ d = 0
 ·rw [if_pos h]; exact ⟨fun _ => h, fun _ => rfl⟩
 ·rw [if_neg h]; exact ⟨fun e => by omega, fun e => absurd e h⟩
theorem cmpE_swap (f d g e : Int) : cmpE g e f d = -cmpE f d g e := by
 unfold cmpE
 rw [cmpI_swap f g, cmpI_swap d e]
 rcases cmpI_cases f g with h | h | h <;> rcases cmpI_cases d e with i | i | i <;> simp [h.2, i.2]
theorem cmpE_zero (f d g e : Int) : cmpE f d g e = 0 ↔ f = g ∧ d = e := by
 unfold cmpE
 rcases cmpI_cases f g with h | h | h <;> rcases cmpI_cases d e with i | i | i <;> simp only [h.2, i.2] <;> simp <;> omega
theorem cmpE_le (f d g e : Int) : cmpE f d g e ≤ 0 ↔ f < g ∨ f = g ∧ d ≤ e := by
 unfold cmpE
 rcases cmpI_cases f g with h | h | h <;> rcases cmpI_cases d e with i | i | i <;> simp only [h.2, i.2] <;> simp <;> omega
theorem cmpE_one (f d g e : Int) : cmpE f d g e = -1 ∨ cmpE f d g e = 0 ∨ cmpE f d g e = 1 := by
 unfold cmpE
 rcases cmpI_cases f g with h | h | h <;> rcases cmpI_cases d e with i | i | i <;> simp [h.2, i.2]
/-- the next end, and the one before: Inf, Day, the error -/
structure StepE (up : Bool) (f d g e c : Int) : Prop where
 bad : ¬ chkE f d = 0 → g = 0 ∧ e = 0 ∧ c = 5
 inf : chkE f d = 0 → ¬ f = 0 → g = f ∧ e = d ∧ c = 0
 over : f = 0 → d = (if up then 9223372036854775807 else -9223372036854775808) → g = 0 ∧ e = 0 ∧ c = 15
 day : f = 0 → ¬ d = (if up then 9223372036854775807 else -9223372036854775808) → g = 0 ∧ e = (if up then d + 1 else d - 1) ∧ c = 0
end Go.Proofs.YteddfolhpoikcaaGreatDoor
namespace Go.Proofs.YteddfolhpoikcaaGreatDoor

/-- a run: Inf and Day of its first end, and of its last one -/
structure Rn where
 f : Int
 d : Int
 g : Int
 e : Int
def zeroR : Rn := ⟨0, 0, 0, 0⟩
/-- its days are numbers of 64 bits -/
structure Rn.In (r : Rn) : Prop where
 d0 : -9223372036854775808 ≤ r.d
 d1 : r.d ≤ 9223372036854775807
 e0 : -9223372036854775808 ≤ r.e
 e1 : r.e ≤ 9223372036854775807
def chkR (r : Rn) : Int := if chkE r.f r.d = 0 ∧ chkE r.g r.e = 0 then (if r.f = 1 ∨ r.g = -1 then 4 else if cmpE r.f r.d r.g r.e = 1 then 12 else 0) else 5
/-- where an end lies -/
def posE (f d : Int) : Int := if f = 0 then d else if f < 0 then -18446744073709551616 else 18446744073709551616
def Rn.lo (r : Rn) : Int := posE r.f r.d
def Rn.hi (r : Rn) : Int := posE r.g r.e
/-- a right run -/
structure Rn.Ok (r : Rn) : Prop extends Rn.In r where
 lof : r.f = 0 ∨ r.f = -1 ∧ r.d = 0
 hif : r.g = 0 ∨ r.g = 1 ∧ r.e = 0
 le : r.f = 0 → r.g = 0 → r.d ≤ r.e
theorem chkR_zero {r : Rn} (h : r.In) : chkR r = 0 ↔ r.Ok := by
 have c := cmpE_le r.f r.d r.g r.e
 have c1 := cmpE_one r.f r.d r.g r.e
 unfold chkR
 by_cases h1 : chkE r.f r.d = 0 ∧ chkE r.g r.e = 0
 ·rw [if_pos h1]
  rw [chkE_zero, chkE_zero] at h1
  by_cases h2 : r.f = 1 ∨ r.g = -1
  ·rw [if_pos h2]
   refine ⟨fun q => by omega, fun q => ?_⟩
   have := q.lof; have := q.hif; omega
  ·rw [if_neg h2]
   by_cases h3 : cmpE r.f r.d r.g r.e = 1
   ·rw [if_pos h3]
    refine ⟨fun q => by omega, fun q => ?_⟩
    have := q.lof; have := q.hif; have := q.le; omega
   ·rw [if_neg h3]
    refine ⟨fun _ => { h with lof := by omega, hif := by omega, le := by omega }, fun _ => rfl⟩
 ·rw [if_neg h1]
  rw [chkE_zero, chkE_zero] at h1
  refine ⟨fun q => by omega, fun q => ?_⟩
  have := q.lof; have := q.hif; omega
/-- what of a right run is known of the places of its ends -/
structure Rn.At (r : Rn) (l h : Int) : Prop where
 pl : r.f = 0 ∧ l = r.d ∧ -9223372036854775808 ≤ l ∧ l ≤ 9223372036854775807 ∨ r.f = -1 ∧ r.d = 0 ∧ l = -18446744073709551616
 ph : r.g = 0 ∧ h = r.e ∧ -9223372036854775808 ≤ h ∧ h ≤ 9223372036854775807 ∨ r.g = 1 ∧ r.e = 0 ∧ h = 18446744073709551616
 le : l ≤ h
theorem Rn.Ok.pos {r : Rn} (h : r.Ok) : r.At r.lo r.hi := by
 have h0 := h.d0
 have h1 := h.d1
 have h2 := h.e0
 have h3 := h.e1
 have a : r.f = 0 ∧ r.lo = r.d ∨ r.f = -1 ∧ r.d = 0 ∧ r.lo = -18446744073709551616 := by
  unfold Rn.lo posE
  rcases h.lof with q | q
  ·left; rw [if_pos q]; exact ⟨q, rfl⟩
  ·right; rw [if_neg (by omega), if_pos (by omega)]; exact ⟨q.1, q.2, rfl⟩
 have b : r.g = 0 ∧ r.hi = r.e ∨ r.g = 1 ∧ r.e = 0 ∧ r.hi = 18446744073709551616 := by
  unfold Rn.hi posE
  rcases h.hif with q | q
  ·left; rw [if_pos q]; exact ⟨q, rfl⟩
  ·right; rw [if_neg (by omega), if_neg (by omega)]; exact ⟨q.1, q.2, rfl⟩
 have c := h.le
 exact ⟨by omega, by omega, by omega⟩
theorem cmp_lo {a b : Rn} (ha : a.Ok) (hb : b.Ok) : cmpE a.f a.d b.f b.d = cmpI a.lo b.lo := by
 have h1 := ha.pos.pl
 have h2 := hb.pos.pl
 have := cmpE_le a.f a.d b.f b.d
 have := cmpE_zero a.f a.d b.f b.d
 have := cmpE_one a.f a.d b.f b.d
 rcases cmpI_cases a.lo b.lo with q | q | q <;> omega
theorem cmp_hi {a b : Rn} (ha : a.Ok) (hb : b.Ok) : cmpE a.g a.e b.g b.e = cmpI a.hi b.hi := by
 have h1 := ha.pos.ph
 have h2 := hb.pos.ph
 have := cmpE_le a.g a.e b.g b.e
 have := cmpE_zero a.g a.e b.g b.e
 have := cmpE_one a.g a.e b.g b.e
 rcases cmpI_cases a.hi b.hi with q | q | q <;> omega
/-- the order of runs -/
def cmpR (a b : Rn) : Int := if cmpE a.f a.d b.f b.d = 0 then cmpE a.g a.e b.g b.e else cmpE a.f a.d b.f b.d
theorem cmpR_swap (a b : Rn) : cmpR b a = -cmpR a b := by
 unfold cmpR
 rw [cmpE_swap a.f a.d b.f b.d, cmpE_swap a.g a.e b.g b.e]
 split <;> split <;> omega
/-- has a run the day, do two runs touch, have they a day in common, is the first one within the other one -/
def hasN (r : Rn) (x : Int) : Bool := decide (chkR r = 0 ∧ r.lo ≤ x ∧ x ≤ r.hi)
def touchN (a b : Rn) : Bool := decide (chkR a = 0 ∧ chkR b = 0 ∧ a.lo ≤ b.hi + 1 ∧ b.lo ≤ a.hi + 1)
def meetN (a b : Rn) : Bool := decide (chkR a = 0 ∧ chkR b = 0 ∧ a.lo ≤ b.hi ∧ b.lo ≤ a.hi)
def inN (a b : Rn) : Bool := decide (chkR a = 0 ∧ chkR b = 0 ∧ b.lo ≤ a.lo ∧ a.hi ≤ b.hi)
/-- from the first of two beginnings to the last of two ends; the other way round -/
def joinN (a b : Rn) : Rn :=
 ⟨if cmpE b.f b.d a.f a.d < 0 then b.f else a.f, if cmpE b.f b.d a.f a.d < 0 then b.d else a.d, if 0 < cmpE b.g b.e a.g a.e then b.g else a.g, if 0 < cmpE b.g b.e a.g a.e then b.e else a.e⟩
def commN (a b : Rn) : Rn :=
 ⟨if 0 < cmpE b.f b.d a.f a.d then b.f else a.f, if 0 < cmpE b.f b.d a.f a.d then b.d else a.d, if cmpE b.g b.e a.g a.e < 0 then b.g else a.g, if cmpE b.g b.e a.g a.e < 0 then b.e else a.e⟩
theorem joinN_in {a b : Rn} (ha : a.In) (hb : b.In) : (joinN a b).In := by
 have := ha.d0; have := ha.d1; have := ha.e0; have := ha.e1; have := hb.d0; have := hb.d1; have := hb.e0; have := hb.e1
 unfold joinN
 constructor <;> simp only <;> split <;> omega
theorem commN_in {a b : Rn} (ha : a.In) (hb : b.In) : (commN a b).In := by
 have := ha.d0; have := ha.d1; have := ha.e0; have := ha.e1; have := hb.d0; have := hb.d1; have := hb.e0; have := hb.e1
 unfold commN
 constructor <;> simp only <;> split <;> omega
theorem joinN_swap (a b : Rn) : joinN b a = joinN a b := by
 have h1 := cmpE_swap a.f a.d b.f b.d
 have h2 := cmpE_swap a.g a.e b.g b.e
 have h3 := cmpE_zero a.f a.d b.f b.d
 have h4 := cmpE_zero a.g a.e b.g b.e
 have h5 := cmpE_one a.f a.d b.f b.d
 have h6 := cmpE_one a.g a.e b.g b.e
 unfold joinN
 rw [Rn.mk.injEq]
 refine ⟨?_, ?_, ?_, ?_⟩ <;> split <;> split <;> omega
theorem commN_swap (a b : Rn) : commN b a = commN a b := by
 have h1 := cmpE_swap a.f a.d b.f b.d
 have h2 := cmpE_swap a.g a.e b.g b.e
 have h3 := cmpE_zero a.f a.d b.f b.d
 have h4 := cmpE_zero a.g a.e b.g b.e
 have h5 := cmpE_one a.f a.d b.f b.d
 have h6 := cmpE_one a.g a.e b.g b.e
 unfold commN
 rw [Rn.mk.injEq]
 refine ⟨?_, ?_, ?_, ?_⟩ <;> split <;> split <;> omega
theorem touchN_swap (a b : Rn) : touchN b a = touchN a b := by unfold touchN; rw [decide_eq_decide]; omega
theorem meetN_swap (a b : Rn) : meetN b a = meetN a b := by unfold meetN; rw [decide_eq_decide]; omega
/-- two right runs' join, its ends -/
theorem join_ok {a b : Rn} (ha : a.Ok) (hb : b.Ok) : (joinN a b).Ok ∧ (joinN a b).lo = (if b.lo < a.lo then b.lo else a.lo) ∧ (joinN a b).hi = (if a.hi < b.hi then b.hi else a.hi) := by
 have c1 := cmp_lo hb ha
 have c2 := cmp_hi hb ha
 have p := ha.pos
 have q := hb.pos
 have p1 := p.pl; have p2 := p.ph; have p3 := p.le
 have q1 := q.pl; have q2 := q.ph; have q3 := q.le
 have hi := joinN_in ha.toIn hb.toIn
 have f1 : (joinN a b).f = a.f ∧ (joinN a b).d = a.d ∧ ¬ b.lo < a.lo ∨ (joinN a b).f = b.f ∧ (joinN a b).d = b.d ∧ b.lo < a.lo := by
  unfold joinN
  simp only
  rw [c1]
  rcases cmpI_cases b.lo a.lo with h | h | h
  ·rw [h.2]; right; exact ⟨rfl, rfl, h.1⟩
  ·rw [h.2]; left; exact ⟨rfl, rfl, by have := h.1; omega⟩
  ·rw [h.2]; left; exact ⟨rfl, rfl, by have := h.1; omega⟩
 have f2 : (joinN a b).g = a.g ∧ (joinN a b).e = a.e ∧ ¬ a.hi < b.hi ∨ (joinN a b).g = b.g ∧ (joinN a b).e = b.e ∧ a.hi < b.hi := by
  unfold joinN
  simp only
  rw [c2]
  rcases cmpI_cases b.hi a.hi with h | h | h
  ·rw [h.2]; left; exact ⟨rfl, rfl, by have := h.1; omega⟩
  ·rw [h.2]; left; exact ⟨rfl, rfl, by have := h.1; omega⟩
  ·rw [h.2]; right; exact ⟨rfl, rfl, h.1⟩
 have l1 : (joinN a b).lo = (if b.lo < a.lo then b.lo else a.lo) := by
  show posE (joinN a b).f (joinN a b).d = _
  rcases f1 with q | q
  ·rw [q.1, q.2.1, if_neg q.2.2]; rfl
  ·rw [q.1, q.2.1, if_pos q.2.2]; rfl
 have l2 : (joinN a b).hi = (if a.hi < b.hi then b.hi else a.hi) := by
  show posE (joinN a b).g (joinN a b).e = _
  rcases f2 with q | q
  ·rw [q.1, q.2.1, if_neg q.2.2]; rfl
  ·rw [q.1, q.2.1, if_pos q.2.2]; rfl
 refine ⟨?_, l1, l2⟩
 exact { hi with lof := by omega, hif := by omega, le := by omega }
theorem comm_ok {a b : Rn} (ha : a.Ok) (hb : b.Ok) (hm : a.lo ≤ b.hi ∧ b.lo ≤ a.hi) : (commN a b).Ok ∧ (commN a b).lo = (if a.lo < b.lo then b.lo else a.lo) ∧ (commN a b).hi = (if b.hi < a.hi then b.hi else a.hi) := by
 have c1 := cmp_lo hb ha
 have c2 := cmp_hi hb ha
 have p := ha.pos
 have q := hb.pos
 have p1 := p.pl; have p2 := p.ph; have p3 := p.le
 have q1 := q.pl; have q2 := q.ph; have q3 := q.le
 have hi := commN_in ha.toIn hb.toIn
 have f1 : (commN a b).f = a.f ∧ (commN a b).d = a.d ∧ ¬ a.lo < b.lo ∨ (commN a b).f = b.f ∧ (commN a b).d = b.d ∧ a.lo < b.lo := by
  unfold commN
  simp only
  rw [c1]
  rcases cmpI_cases b.lo a.lo with h | h | h
  ·rw [h.2]; left; exact ⟨rfl, rfl, by have := h.1; omega⟩
  ·rw [h.2]; left; exact ⟨rfl, rfl, by have := h.1; omega⟩
  ·rw [h.2]; right; exact ⟨rfl, rfl, h.1⟩
 have f2 : (commN a b).g = a.g ∧ (commN a b).e = a.e ∧ ¬ b.hi < a.hi ∨ (commN a b).g = b.g ∧ (commN a b).e = b.e ∧ b.hi < a.hi := by
  unfold commN
  simp only
  rw [c2]
  rcases cmpI_cases b.hi a.hi with h | h | h
  ·rw [h.2]; right; exact ⟨rfl, rfl, h.1⟩
  ·rw [h.2]; left; exact ⟨rfl, rfl, by have := h.1; omega⟩
  ·rw [h.2]; left; exact ⟨rfl, rfl, by have := h.1; omega⟩
 have l1 : (commN a b).lo = (if a.lo < b.lo then b.lo else a.lo) := by
  show posE (commN a b).f (commN a b).d = _
  rcases f1 with q | q
  ·rw [q.1, q.2.1, if_neg q.2.2]; rfl
  ·rw [q.1, q.2.1, if_pos q.2.2]; rfl
 have l2 : (commN a b).hi = (if b.hi < a.hi then b.hi else a.hi) := by
  show posE (commN a b).g (commN a b).e = _
  rcases f2 with q | q
  ·rw [q.1, q.2.1, if_neg q.2.2]; rfl
  ·rw [q.1, q.2.1, if_pos q.2.2]; rfl
 refine ⟨?_, l1, l2⟩
 exact { hi with lof := by omega, hif := by omega, le := by omega }
theorem hasN_ok {r : Rn} (h : r.Ok) (x : Int) : hasN r x = decide (r.lo ≤ x ∧ x ≤ r.hi) := by
 unfold hasN
 rw [decide_eq_decide]
 exact ⟨fun q => q.2, fun q => ⟨(chkR_zero h.toIn).2 h, q⟩⟩
/-- a day is in the join of two runs that touch exactly if one of them has it -/
theorem has_join {a b : Rn} (ha : a.In) (hb : b.In) (ht : touchN a b = true) (x : Int) : hasN (joinN a b) x = (hasN a x || hasN b x) := by
 unfold touchN at ht
 rw [decide_eq_true_iff] at ht
 have oa := (chkR_zero ha).1 ht.1
 have ob := (chkR_zero hb).1 ht.2.1
 obtain ⟨oj, l1, l2⟩ := join_ok oa ob
 have p3 := oa.pos.le
 have q3 := ob.pos.le
 rw [hasN_ok oj, hasN_ok oa, hasN_ok ob, l1, l2, Bool.eq_iff_iff]
 simp only [Bool.or_eq_true, decide_eq_true_iff]
 split <;> split <;> omega
theorem has_comm {a b : Rn} (ha : a.In) (hb : b.In) (h1 : chkR a = 0) (h2 : chkR b = 0) (x : Int) (_x0 : -9223372036854775808 ≤ x) (_x1 : x ≤ 9223372036854775807) : (meetN a b && hasN (commN a b) x) = (hasN a x && hasN b x) := by
 have oa := (chkR_zero ha).1 h1
 have ob := (chkR_zero hb).1 h2
 have p3 := oa.pos.le
 have q3 := ob.pos.le
 rw [hasN_ok oa, hasN_ok ob]
 by_cases hm : a.lo ≤ b.hi ∧ b.lo ≤ a.hi
 ·obtain ⟨oj, l1, l2⟩ := comm_ok oa ob hm
  have : meetN a b = true := by unfold meetN; rw [decide_eq_true_iff]; exact ⟨h1, h2, hm⟩
  rw [this, Bool.true_and, hasN_ok oj, l1, l2, Bool.eq_iff_iff]
  simp only [Bool.and_eq_true, decide_eq_true_iff]
  by_cases c1 : a.lo < b.lo <;> by_cases c2 : b.hi < a.hi <;> simp only [c1, c2, if_true, if_false] <;> omega
 ·have : meetN a b = false := by unfold meetN; rw [decide_eq_false_iff_not]; omega
  rw [this, Bool.eq_iff_iff]
  simp only [Bool.and_eq_true, decide_eq_true_iff]
  constructor
  ·intro h; cases h.1
  ·intro h; omega
/-- the join of two right runs is the second one exactly if the first one is within it -/
theorem join_within {a b : Rn} (ha : a.Ok) (hb : b.Ok) : joinN a b = b ↔ b.lo ≤ a.lo ∧ a.hi ≤ b.hi := by
 constructor
 ·intro h
  obtain ⟨_, l1, l2⟩ := join_ok ha hb
  rw [h] at l1 l2
  by_cases c1 : b.lo < a.lo <;> by_cases c2 : a.hi < b.hi <;> simp only [c1, c2, if_true, if_false] at l1 l2 <;> omega
 ·intro h
  have c1 := cmp_lo hb ha
  have c2 := cmp_hi hb ha
  have z1 := cmpE_zero b.f b.d a.f a.d
  have z2 := cmpE_zero b.g b.e a.g a.e
  have o1 : cmpE b.f b.d a.f a.d ≤ 0 := by rcases cmpI_cases b.lo a.lo with q | q | q <;> omega
  have o2 : 0 ≤ cmpE b.g b.e a.g a.e := by rcases cmpI_cases b.hi a.hi with q | q | q <;> omega
  have key : joinN a b = ⟨b.f, b.d, b.g, b.e⟩ := by
   unfold joinN
   rw [Rn.mk.injEq]
   refine ⟨?_, ?_, ?_, ?_⟩ <;> split <;> omega
  exact key
/-- how many days a run has: the number, the error -/
def lenN (r : Rn) : Int := if r.f = 0 ∧ r.g = 0 ∧ r.e - r.d + 1 ≤ 9223372036854775807 then r.e - r.d + 1 else 0
def lenC (r : Rn) : Int := if r.f = 0 ∧ r.g = 0 then (if r.e - r.d + 1 ≤ 9223372036854775807 then 0 else 15) else 16
/-- an end that is moved by k days: Inf, Day, whether it fits -/
structure MoveE (f d k g e : Int) (b : Bool) : Prop where
 inf : ¬ f = 0 → g = f ∧ e = d ∧ b = true
 fits : f = 0 → (-9223372036854775808 ≤ d + k ∧ d + k ≤ 9223372036854775807) → g = 0 ∧ e = d + k ∧ b = true
 over : f = 0 → ¬ (-9223372036854775808 ≤ d + k ∧ d + k ≤ 9223372036854775807) → g = 0 ∧ e = 0 ∧ b = false
theorem move_is (f d k : Int) : ∃ g e b, MoveE f d k g e b := by
 by_cases h : f = 0
 ·by_cases h1 : -9223372036854775808 ≤ d + k ∧ d + k ≤ 9223372036854775807
  ·exact ⟨0, d + k, true, fun x => absurd h x, fun _ _ => ⟨rfl, rfl, rfl⟩, fun _ x => absurd h1 x⟩
  ·exact ⟨0, 0, false, fun x => absurd h x, fun _ x => absurd x h1, fun _ _ => ⟨rfl, rfl, rfl⟩⟩
 ·exact ⟨f, d, true, fun _ => ⟨rfl, rfl, rfl⟩, fun x => absurd x h, fun x => absurd x h⟩
/-- a run that is moved: the run, the error -/
structure MoveR (r : Rn) (k : Int) (s : Rn) (c : Int) : Prop where
 fits : ∀ g e h i, MoveE r.f r.d k g e true → MoveE r.g r.e k h i true → s = ⟨g, e, h, i⟩ ∧ c = 0
 over : ∀ g e h i a b, MoveE r.f r.d k g e a → MoveE r.g r.e k h i b → (a && b) = false → s = ⟨0, 0, 0, 0⟩ ∧ c = 15
theorem MoveE.det {f d k g e g' e' : Int} {b b' : Bool} (h : MoveE f d k g e b) (h' : MoveE f d k g' e' b') : g' = g ∧ e' = e ∧ b' = b := by
 by_cases h0 : f = 0
 ·by_cases h1 : -9223372036854775808 ≤ d + k ∧ d + k ≤ 9223372036854775807
  ·obtain ⟨rfl, rfl, rfl⟩ := h.fits h0 h1; exact h'.fits h0 h1
  ·obtain ⟨rfl, rfl, rfl⟩ := h.over h0 h1; exact h'.over h0 h1
 ·obtain ⟨rfl, rfl, rfl⟩ := h.inf h0; exact h'.inf h0
theorem moveR_is (r : Rn) (k : Int) : ∃ s c, MoveR r k s c := by
 obtain ⟨g, e, a, h1⟩ := move_is r.f r.d k
 obtain ⟨h, i, b, h2⟩ := move_is r.g r.e k
 cases hab : (a && b)
 ·refine ⟨⟨0, 0, 0, 0⟩, 15, fun g' e' h' i' x y => ?_, fun _ _ _ _ _ _ _ _ _ => ⟨rfl, rfl⟩⟩
  obtain ⟨_, _, rfl⟩ := h1.det x
  obtain ⟨_, _, rfl⟩ := h2.det y
  cases hab
 ·refine ⟨⟨g, e, h, i⟩, 0, fun g' e' h' i' x y => ?_, fun g' e' h' i' a' b' x y z => ?_⟩
  ·obtain ⟨rfl, rfl, _⟩ := h1.det x
   obtain ⟨rfl, rfl, _⟩ := h2.det y
   exact ⟨rfl, rfl⟩
  ·obtain ⟨_, _, rfl⟩ := h1.det x
   obtain ⟨_, _, rfl⟩ := h2.det y
   rw [hab] at z; cases z
theorem moveE_back {f d k g e : Int} (h : MoveE f d k g e true) (d0 : -9223372036854775808 ≤ d) (d1 : d ≤ 9223372036854775807) : MoveE g e (-k) f d true ∧ (-9223372036854775808 ≤ e ∧ e ≤ 9223372036854775807) ∧ (f = 0 → g = 0 ∧ e = d + k) ∧ (¬ f = 0 → g = f ∧ e = d) := by
 by_cases h0 : f = 0
 ·by_cases h1 : -9223372036854775808 ≤ d + k ∧ d + k ≤ 9223372036854775807
  ·obtain ⟨rfl, rfl, _⟩ := h.fits h0 h1
   exact ⟨⟨fun x => absurd rfl x, fun _ _ => ⟨h0, by omega, rfl⟩, fun _ x => absurd (by omega) x⟩, h1, fun _ => ⟨rfl, rfl⟩, fun x => absurd h0 x⟩
  ·have := (h.over h0 h1).2.2; cases this
 ·obtain ⟨rfl, rfl, _⟩ := h.inf h0
  exact ⟨⟨fun _ => ⟨rfl, rfl, rfl⟩, fun x => absurd x h0, fun x => absurd x h0⟩, ⟨d0, d1⟩, fun x => absurd x h0, fun _ => ⟨rfl, rfl⟩⟩
/-- a run that was moved is right, and is moved back -/
theorem moveR_back {r s : Rn} {k : Int} (h : MoveR r k s 0) (hr : r.Ok) : s.Ok ∧ MoveR s (-k) r 0 := by
 obtain ⟨g, e, a, h1⟩ := move_is r.f r.d k
 obtain ⟨g', e', b, h2⟩ := move_is r.g r.e k
 cases hab : (a && b)
 ·have := (h.over _ _ _ _ _ _ h1 h2 hab).2; omega
 ·rw [Bool.and_eq_true] at hab
  obtain ⟨rfl, rfl⟩ := hab
  obtain ⟨rfl, _⟩ := h.fits _ _ _ _ h1 h2
  obtain ⟨b1, b2, b3, b4⟩ := moveE_back h1 hr.d0 hr.d1
  obtain ⟨c1, c2, c3, c4⟩ := moveE_back h2 hr.e0 hr.e1
  have x1 := hr.lof
  have x2 := hr.hif
  have x3 := hr.le
  refine ⟨⟨⟨b2.1, b2.2, c2.1, c2.2⟩, ?_, ?_, ?_⟩, ⟨fun u v p q y z => ?_, fun u v p q y z m n o => ?_⟩⟩
  ·show g = 0 ∨ g = -1 ∧ e = 0
   by_cases q : r.f = 0
   ·left; exact (b3 q).1
   ·right; have := b4 q; omega
  ·show g' = 0 ∨ g' = 1 ∧ e' = 0
   by_cases q : r.g = 0
   ·left; exact (c3 q).1
   ·right; have := c4 q; omega
  ·show g = 0 → g' = 0 → e ≤ e'
   intro y z
   have q1 : r.f = 0 := Decidable.byContradiction fun q => by have := b4 q; omega
   have q2 : r.g = 0 := Decidable.byContradiction fun q => by have := c4 q; omega
   have := b3 q1; have := c3 q2; have := x3 q1 q2; omega
  ·obtain ⟨rfl, rfl, _⟩ := b1.det y
   obtain ⟨rfl, rfl, _⟩ := c1.det z
   exact ⟨rfl, rfl⟩
  ·obtain ⟨_, _, rfl⟩ := b1.det m
   obtain ⟨_, _, rfl⟩ := c1.det n
   cases o
theorem moveR_err {r s : Rn} {k c : Int} (h : MoveR r k s c) : c = 0 ∨ c = 15 ∧ s = zeroR := by
 obtain ⟨g, e, a, h1⟩ := move_is r.f r.d k
 obtain ⟨g', e', b, h2⟩ := move_is r.g r.e k
 cases hab : (a && b)
 ·have := h.over _ _ _ _ _ _ h1 h2 hab; exact .inr ⟨this.2, this.1⟩
 ·rw [Bool.and_eq_true] at hab
  obtain ⟨rfl, rfl⟩ := hab
  exact .inl (h.fits _ _ _ _ h1 h2).2
end Go.Proofs.YteddfolhpoikcaaGreatDoor
namespace Go.Proofs.YteddfolhpoikcaaGreatDoor
open Go.RowKit

/-- a fact kept out of the walk's sight (a structure: no tactic looks through it) -/
structure Kp (p : Prop) : Prop where
 out : p
theorem ret_int {k : IntKind} {a b : Int} (h : a = b) : Ending.returned (.int k a) = .returned (.int k b) := by rw [h]
theorem ret_bool {a b : Bool} (h : a = b) : Ending.returned (.bool a) = .returned (.bool b) := by rw [h]
end Go.Proofs.YteddfolhpoikcaaGreatDoor
namespace Go.Proofs.YteddfolhpoikcaaGreatDoor

def differB (a b : Int) : Bool := decide (a < 0) != decide (b < 0)
theorem differB_true {a b : Int} (h : (a < 0 ∧ 0 ≤ b) ∨ (0 ≤ a ∧ b < 0)) : differB a b = true := by
 unfold differB
 rcases h with ⟨h, g⟩ | ⟨h, g⟩
 ·rw [decide_eq_true h, decide_eq_false (by omega)]; rfl
 ·rw [decide_eq_false (by omega), decide_eq_true g]; rfl
theorem differB_false {a b : Int} (h : (a < 0 ∧ b < 0) ∨ (0 ≤ a ∧ 0 ≤ b)) : differB a b = false := by
 unfold differB
 rcases h with ⟨h, g⟩ | ⟨h, g⟩
 ·rw [decide_eq_true h, decide_eq_true g]; rfl
 ·rw [decide_eq_false (by omega), decide_eq_false (by omega)]; rfl

theorem of_differB {a b : Int} (h : differB a b = true) : (a < 0 ∧ 0 ≤ b) ∨ (0 ≤ a ∧ b < 0) := by
 by_cases c : (a < 0 ∧ b < 0) ∨ (0 ≤ a ∧ 0 ≤ b)
 ·rw [differB_false c] at h; cases h
 ·omega

theorem tmod_sign (a b : Int) : (0 ≤ a → 0 ≤ a.tmod b) ∧ (a ≤ 0 → a.tmod b ≤ 0) := by
 constructor
 ·intro h; exact Int.tmod_nonneg b h
 ·intro h
  have := Int.tmod_nonneg b (show 0 ≤ -a by omega)
  rw [Int.neg_tmod] at this; omega
theorem tmod_abs (a b : Int) (h : ¬ b = 0) : (0 < b → -b < a.tmod b ∧ a.tmod b < b) ∧ (b < 0 → b < a.tmod b ∧ a.tmod b < -b) := by
 have h1 := Int.natAbs_tmod a b
 have h2 := Nat.mod_lt a.natAbs (show 0 < b.natAbs by omega)
 constructor <;> intro <;> omega
theorem tdiv_bound (a b : Int) (h0 : -9223372036854775808 ≤ a) (h1 : a ≤ 9223372036854775807) (h : ¬ (a = -9223372036854775808 ∧ b = -1)) : -9223372036854775808 ≤ a.tdiv b ∧ a.tdiv b ≤ 9223372036854775807 := by
 have h2 : (a.tdiv b).natAbs = a.natAbs / b.natAbs := Int.natAbs_tdiv a b
 have h3 : a.natAbs / b.natAbs ≤ a.natAbs := Nat.div_le_self _ _
 by_cases e : a = -9223372036854775808
 ·have hb : ¬ b = -1 := fun g => h ⟨e, g⟩
  by_cases g : b = 1
  ·subst g; rw [Int.tdiv_one]; omega
  ·have : a.natAbs / b.natAbs ≤ a.natAbs / 2 ∨ b = 0 := by
    by_cases z : b = 0
    ·exact .inr z
    ·exact .inl (Nat.div_le_div_left (by omega) (by omega))
   rcases this with g | g
   ·omega
   ·subst g; rw [Int.tdiv_zero]; omega
 ·omega
end Go.Proofs.YteddfolhpoikcaaGreatDoor
namespace Go.Proofs.YteddfolhpoikcaaGreatDoor

/-- the digits of a number, the least first -/
def dg (n : Nat) : List Nat := if h : n = 0 then [] else n % 10 :: dg (n / 10)
termination_by n
decreasing_by omega
def vl : List Nat → Nat
 | [] => 0
 | d :: r => d + 10 * vl r
theorem dg_zero : dg 0 = [] := by unfold dg; simp
theorem dg_pos {n : Nat} (h : ¬ n = 0) : dg n = n % 10 :: dg (n / 10) := by rw [dg]; simp [h]
theorem vl_dg (n : Nat) : vl (dg n) = n := by
 induction n using Nat.strongRecOn with
 | _ n ih =>
  by_cases h : n = 0
  ·subst h; rw [dg_zero]; rfl
  ·rw [dg_pos h]; unfold vl; rw [ih (n / 10) (by omega)]; omega
theorem dg_le (n : Nat) : ∀ d ∈ dg n, d ≤ 9 := by
 induction n using Nat.strongRecOn with
 | _ n ih =>
  by_cases h : n = 0
  ·subst h; rw [dg_zero]; simp
  ·rw [dg_pos h]
   intro d hd
   rcases List.mem_cons.1 hd with rfl | hd
   ·omega
   ·exact ih (n / 10) (by omega) d hd
theorem dg_nil {n : Nat} : dg n = [] ↔ n = 0 := by
 constructor
 ·intro h; have := vl_dg n; rw [h] at this; exact this.symm
 ·rintro rfl; exact dg_zero
theorem vl_append (a b : List Nat) : vl (a ++ b) = vl a + 10 ^ a.length * vl b := by
 induction a with
 | nil => simp [vl]
 | cons d r ih => simp only [List.cons_append, vl, ih, List.length_cons, Nat.pow_succ]; rw [Nat.mul_add, Nat.add_assoc, ← Nat.mul_assoc, Nat.mul_comm 10 (10 ^ r.length)]
theorem vl_snoc (a : List Nat) (d : Nat) : vl (a ++ [d]) = vl a + 10 ^ a.length * d := by rw [vl_append]; simp [vl]
theorem vl_lt (l : List Nat) (h : ∀ d ∈ l, d ≤ 9) : vl l < 10 ^ l.length := by
 induction l with
 | nil => simp [vl]
 | cons d r ih =>
  have h1 := h d (by simp)
  have h2 := ih (fun x hx => h x (by simp [hx]))
  simp only [vl, List.length_cons, Nat.pow_succ]; omega
/-- a list of digits without zeros at the end is that of its value -/
theorem dg_vl (l : List Nat) (h : ∀ d ∈ l, d ≤ 9) (hl : ∀ a, l = a ++ [0] → False) : dg (vl l) = l := by
 induction l with
 | nil => exact dg_zero
 | cons d r ih =>
  have hd := h d (by simp)
  have h1 : ∀ a, r = a ++ [0] → False := fun a e => hl (d :: a) (by rw [e]; rfl)
  have h2 := ih (fun x hx => h x (by simp [hx])) h1
  have h3 : ¬ vl (d :: r) = 0 := by
   intro e
   unfold vl at e
   have e1 : d = 0 := by omega
   have e2 : vl r = 0 := by omega
   rw [e2, dg_zero] at h2
   exact hl [] (by rw [e1, ← h2]; rfl)
  rw [dg_pos h3]
  have h0 : vl (d :: r) = d + 10 * vl r := rfl
  have h4 : vl (d :: r) % 10 = d := by omega
  have h5 : vl (d :: r) / 10 = vl r := by omega
  rw [h4, h5, h2]
theorem vl_zero_snoc (a : List Nat) : vl (a ++ [0]) = vl a := by rw [vl_snoc]; simp
theorem dg_length_le (n k : Nat) (h : n < 10 ^ k) : (dg n).length ≤ k := by
 induction k generalizing n with
 | zero => have : n = 0 := by simpa using h
           rw [this, dg_zero]; simp
 | succ k ih =>
  by_cases e : n = 0
  ·rw [e, dg_zero]; simp
  ·rw [dg_pos e]
   have := ih (n / 10) (by rw [Nat.pow_succ] at h; omega)
   simp; omega
theorem dg_last (n : Nat) (a : List Nat) : dg n = a ++ [0] → False := by
 induction n using Nat.strongRecOn generalizing a with
 | _ n ih =>
  intro h
  by_cases e : n = 0
  ·rw [e, dg_zero] at h; simp at h
  ·rw [dg_pos e] at h
   cases a with
   | nil =>
    simp only [List.nil_append, List.cons.injEq] at h
    have := dg_nil.1 h.2
    omega
   | cons x t =>
    simp only [List.cons_append, List.cons.injEq] at h
    exact ih (n / 10) (by omega) t h.2
theorem pow_le_vl (l : List Nat) (h : ∀ a, l = a ++ [0] → False) (hl : ¬ l = []) : 10 ^ (l.length - 1) ≤ vl l := by
 induction l with
 | nil => exact absurd rfl hl
 | cons d r ih =>
  by_cases e : r = []
  ·subst e
   have : ¬ d = 0 := fun z => h [] (by rw [z]; rfl)
   simp [vl]; omega
  ·have := ih (fun a e => h (d :: a) (by rw [e]; rfl)) e
   have hp : r.length = (r.length - 1) + 1 := by cases r with | nil => exact absurd rfl e | cons _ _ => simp
   simp only [vl, List.length_cons, Nat.add_sub_cancel]
   rw [hp, Nat.pow_succ]; omega
/-- the digit at a place, 0 behind the last one -/
def at0 (l : List Nat) (i : Nat) : Nat := l.getD i 0
theorem vl_drop (l : List Nat) (i : Nat) : vl (l.drop i) = at0 l i + 10 * vl (l.drop (i + 1)) := by
 induction l generalizing i with
 | nil => simp [at0, vl]
 | cons d r ih =>
  cases i with
  | zero => simp [at0, vl]
  | succ i => simpa [at0] using ih i
theorem at0_le (l : List Nat) (h : ∀ d ∈ l, d ≤ 9) (i : Nat) : at0 l i ≤ 9 := by
 unfold at0
 rw [List.getD_eq_getElem?_getD]
 cases e : l[i]? with
 | none => simp
 | some d => exact h d (List.mem_of_getElem? e)
/-- canonical: digits, and no zero at the end -/
def Can (l : List Nat) : Prop := (∀ d ∈ l, d ≤ 9) ∧ ∀ a, l = a ++ [0] → False
theorem Can.dg (n : Nat) : Can (dg n) := ⟨dg_le n, dg_last n⟩
theorem Can.eq {l : List Nat} (h : Can l) : Go.Proofs.YteddfolhpoikcaaGreatDoor.dg (vl l) = l := dg_vl l h.1 h.2
theorem less_len {a b : List Nat} (ha : Can a) (hb : Can b) (h : a.length < b.length) : vl a < vl b := by
 have h1 := vl_lt a ha.1
 have h2 := pow_le_vl b hb.2 (by rintro rfl; simp at h)
 have h3 : 10 ^ a.length ≤ 10 ^ (b.length - 1) := Nat.pow_le_pow_right (by decide) (by omega)
 omega
theorem vl_split (l : List Nat) (i : Nat) : vl l = vl (l.take i) + 10 ^ (l.take i).length * vl (l.drop i) := by
 rw [← vl_append, List.take_append_drop]
theorem less_at {a b : List Nat} (ha : Can a) (hl : a.length = b.length) (i : Nat) (hi : i < a.length) (hd : vl (a.drop (i + 1)) = vl (b.drop (i + 1))) (h : at0 a i < at0 b i) : vl a < vl b := by
 rw [vl_split a i, vl_split b i, vl_drop a i, vl_drop b i, hd]
 have e1 : (a.take i).length = i := by simp; omega
 have e2 : (b.take i).length = i := by simp; omega
 have h1 := vl_lt (a.take i) (fun d hd => ha.1 d (List.mem_of_mem_take hd))
 rw [e1] at h1 ⊢
 rw [e2]
 have h2 : 10 ^ i * (at0 a i + 1 + 10 * vl (b.drop (i + 1))) ≤ 10 ^ i * (at0 b i + 10 * vl (b.drop (i + 1))) := Nat.mul_le_mul_left _ (by omega)
 have h3 : 10 ^ i * (at0 a i + 1 + 10 * vl (b.drop (i + 1))) = 10 ^ i * (at0 a i + 10 * vl (b.drop (i + 1))) + 10 ^ i := by
  rw [show at0 a i + 1 + 10 * vl (b.drop (i + 1)) = at0 a i + 10 * vl (b.drop (i + 1)) + 1 from by omega, Nat.mul_add, Nat.mul_one]
 omega
end Go.Proofs.YteddfolhpoikcaaGreatDoor
namespace Go.Proofs.YteddfolhpoikcaaGreatDoor

def cs10 : List UInt8 := [48, 49, 50, 51, 52, 53, 54, 55, 56, 57]
def textB (l : List UInt8) : Bool := l == [48] || (match Lib.trimPrefix l [45] with
 | [] => false
 | c :: r => (c.toNat : Int) != 48 && (Lib.trimS (c :: r) cs10).isEmpty)
/-! ## What a text says, as plain mathematics -/
def valM (acc : Nat) : List UInt8 → Nat
 | [] => acc
 | c :: r => valM (acc * 10 + (c.toNat - 48)) r
def dig (c : UInt8) : Prop := 48 ≤ c.toNat ∧ c.toNat ≤ 57
theorem valM_ge (l : List UInt8) : ∀ acc, acc ≤ valM acc l := by
 induction l with
 | nil => intro acc; exact Nat.le_refl _
 | cons c r ih => intro acc; have := ih (acc * 10 + (c.toNat - 48)); unfold valM; omega
theorem parseUintM_nil (acc : Nat) : Lib.parseUintM 18446744073709551615 acc [] = .ok acc := by rw [Lib.parseUintM]
theorem parseUintM_val (l : List UInt8) : ∀ acc, acc ≤ 18446744073709551615 → (∀ c ∈ l, dig c) →
 Lib.parseUintM 18446744073709551615 acc l = if valM acc l ≤ 18446744073709551615 then .ok (valM acc l) else .range := by
 induction l with
 | nil => intro acc ha _; rw [parseUintM_nil]; exact (if_pos ha).symm
 | cons c r ih =>
  intro acc ha hd
  have hc := hd c (by simp)
  have hg := valM_ge r (acc * 10 + (c.toNat - 48))
  unfold dig at hc
  have e : valM acc (c :: r) = valM (acc * 10 + (c.toNat - 48)) r := rfl
  rw [e, Lib.parseUintM, if_pos hc]
  by_cases h1 : 1844674407370955162 ≤ acc
  ·rw [if_pos h1, if_neg (by omega)]
  ·rw [if_neg h1]
   by_cases h2 : 18446744073709551615 < acc * 10 + (c.toNat - 48)
   ·rw [if_pos h2, if_neg (by omega)]
   ·rw [if_neg h2]
    exact ih _ (by omega) (fun x hx => hd x (by simp [hx]))
def textVal : List UInt8 → Int
 | [] => 0
 | c :: r => if c.toNat = 45 then -(valM 0 r : Int) else valM 0 (c :: r)
theorem textVal_minus (r : List UInt8) : textVal (45 :: r) = -(valM 0 r : Int) := by simp [textVal]
theorem textVal_plain (c : UInt8) (r : List UInt8) (h : ¬ c.toNat = 45) : textVal (c :: r) = (valM 0 (c :: r) : Int) := if_neg h
/-- the form of a text -/
def Form (l : List UInt8) : Prop := l = [48] ∨ ∃ c r, (l = c :: r ∨ l = 45 :: c :: r) ∧ ¬ c.toNat = 48 ∧ ∀ x ∈ c :: r, dig x
theorem cs10_iff (c : UInt8) : cs10.contains c = true ↔ dig c := by
 unfold cs10 dig
 simp only [List.contains_eq_mem, decide_eq_true_eq, List.mem_cons, List.not_mem_nil, or_false, ← UInt8.toNat_inj]
 simp
 omega
theorem dropWhile_nil {p : UInt8 → Bool} {l : List UInt8} : l.dropWhile p = [] ↔ ∀ x ∈ l, p x = true := by
 induction l with
 | nil => simp
 | cons a r ih =>
  rw [List.dropWhile_cons]
  cases h : p a with
  | true => simp [h, ih]
  | false => simp [h]
theorem dropWhile_all {p : UInt8 → Bool} {l : List UInt8} (h : ∀ x ∈ l.dropWhile p, p x = true) : l.dropWhile p = [] := by
 induction l with
 | nil => rfl
 | cons a r ih =>
  rw [List.dropWhile_cons] at h ⊢
  cases g : p a with
  | true => rw [g] at h; exact ih (by simpa using h)
  | false => rw [g] at h; have := h a (by simp); rw [g] at this; cases this
theorem trimS_nil (l : List UInt8) : (Lib.trimS l cs10).isEmpty = true ↔ ∀ x ∈ l, dig x := by
 unfold Lib.trimS Lib.trimLeftS Lib.trimRightS
 rw [List.isEmpty_iff]
 constructor
 ·intro h
  have h1 := dropWhile_nil.1 h
  have h2 : l.reverse.dropWhile (cs10.contains ·) = [] := dropWhile_all (fun x hx => h1 x (by simpa using hx))
  have h3 := dropWhile_nil.1 h2
  exact fun x hx => (cs10_iff x).1 (h3 x (by simpa using hx))
 ·intro h
  have h2 : l.reverse.dropWhile (cs10.contains ·) = [] := dropWhile_nil.2 (fun x hx => (cs10_iff x).2 (h x (by simpa using hx)))
  rw [h2]; rfl
theorem trimPrefix_minus (r : List UInt8) : Lib.trimPrefix (45 :: r) [45] = r := by
 simp [Lib.trimPrefix, Lib.hasPrefix]
theorem trimPrefix_other (c : UInt8) (r : List UInt8) (h : ¬ c.toNat = 45) : Lib.trimPrefix (c :: r) [45] = c :: r := by
 have : ¬ c = 45 := fun e => h (by rw [e]; rfl)
 simp [Lib.trimPrefix, Lib.hasPrefix]
 exact fun e => absurd e (by first | exact this | exact fun g => this g.symm)
theorem textB_iff (l : List UInt8) : textB l = true ↔ Form l := by
 have body : ∀ c r, ((c.toNat : Int) != 48 && (Lib.trimS (c :: r) cs10).isEmpty) = true ↔ ¬ c.toNat = 48 ∧ ∀ x ∈ c :: r, dig x := by
  intro c r
  rw [Bool.and_eq_true, trimS_nil, bne_iff_ne]
  constructor
  ·exact fun h => ⟨fun e => h.1 (by omega), h.2⟩
  ·exact fun h => ⟨fun e => h.1 (by omega), h.2⟩
 unfold textB Form
 rw [Bool.or_eq_true]
 constructor
 ·rintro (h | h)
  ·exact .inl (by simpa using h)
  ·right
   cases l with
   | nil => simp [Lib.trimPrefix, Lib.hasPrefix] at h
   | cons a t =>
    by_cases ha : a.toNat = 45
    ·have e : a = 45 := UInt8.toNat_inj.1 ha
     subst e
     rw [trimPrefix_minus] at h
     cases t with
     | nil => cases h
     | cons c r => exact ⟨c, r, .inr rfl, (body c r).1 h⟩
    ·rw [trimPrefix_other a t ha] at h
     exact ⟨a, t, .inl rfl, (body a t).1 h⟩
 ·rintro (h | ⟨c, r, h, hb⟩)
  ·exact .inl (by simp [h])
  ·right
   rcases h with rfl | rfl
   ·rw [trimPrefix_other c r (by have := hb.2 c (by simp); unfold dig at this; omega)]
    exact (body c r).2 hb
   ·rw [trimPrefix_minus]
    exact (body c r).2 hb
theorem parse_val (l : List UInt8) (h : Form l) : Lib.parseIntB 64 l = if -9223372036854775808 ≤ textVal l ∧ textVal l ≤ 9223372036854775807 then .ok (textVal l) else .range := by
 have key : ∀ c r, (∀ x ∈ c :: r, dig x) → Lib.parseUintB 64 (c :: r) = if valM 0 (c :: r) ≤ 18446744073709551615 then .ok (valM 0 (c :: r)) else .range := by
  intro c r hd
  have e : Lib.parseUintB 64 (c :: r) = Lib.parseUintM 18446744073709551615 0 (c :: r) := rfl
  rw [e]
  exact parseUintM_val _ 0 (by omega) hd
 have pos : ∀ c r, (∀ x ∈ c :: r, dig x) → Lib.parseIntB 64 (c :: r) = if -9223372036854775808 ≤ textVal (c :: r) ∧ textVal (c :: r) ≤ 9223372036854775807 then .ok (textVal (c :: r)) else .range := by
  intro c r hd
  have hc := hd c (by simp)
  unfold dig at hc
  rw [Lib.parseIntB_plain 64 c r (by omega) (by omega), key c r hd]
  have e : textVal (c :: r) = valM 0 (c :: r) := if_neg (by omega)
  rw [e]
  by_cases h1 : valM 0 (c :: r) ≤ 18446744073709551615
  ·rw [if_pos h1]
   by_cases h2 : 9223372036854775808 ≤ valM 0 (c :: r)
   ·rw [if_neg (by omega)]
    show (if 2 ^ (64 - 1) ≤ _ then _ else _) = _
    rw [if_pos (by simpa using h2)]
   ·rw [if_pos (by omega)]
    show (if 2 ^ (64 - 1) ≤ _ then _ else _) = _
    rw [if_neg (by simpa using h2)]
  ·rw [if_neg h1, if_neg (by omega)]
   rfl
 rcases h with rfl | ⟨c, r, rfl | rfl, hb⟩
 ·exact pos 48 [] (by intro x hx; simp at hx; subst hx; unfold dig; decide)
 ·exact pos c r hb.2
 ·rw [Lib.parseIntB_minus, key c r hb.2]
  have e : textVal (45 :: c :: r) = -(valM 0 (c :: r) : Int) := textVal_minus _
  rw [e]
  by_cases h1 : valM 0 (c :: r) ≤ 18446744073709551615
  ·rw [if_pos h1]
   by_cases h2 : 9223372036854775808 < valM 0 (c :: r)
   ·rw [if_neg (by omega)]
    show (if 2 ^ (64 - 1) < _ then _ else _) = _
    rw [if_pos (by simpa using h2)]
   ·rw [if_pos (by omega)]
    show (if 2 ^ (64 - 1) < _ then _ else _) = _
    rw [if_neg (by simpa using h2)]
  ·rw [if_neg h1, if_neg (by omega)]
   rfl
end Go.Proofs.YteddfolhpoikcaaGreatDoor
namespace Go.Proofs.YteddfolhpoikcaaGreatDoor
open Go.RowKit
set_option maxRecDepth 100000

/-- a string of these bytes -/
def bs (l : List UInt8) : ByteArray := ⟨l.toArray⟩
theorem bs_size (l : List UInt8) : (bs l).size = l.length := by show l.toArray.size = _; simp
theorem bs_app (a b : List UInt8) : bs a ++ bs b = bs (a ++ b) := by
 apply ByteArray.ext
 rw [ByteArray.data_append]
 show a.toArray ++ b.toArray = (a ++ b).toArray
 simp
theorem bs_list (s : ByteArray) : bs s.data.toList = s := by unfold bs; simp
theorem bs_inj {a b : List UInt8} : bs a = bs b ↔ a = b := by
 constructor
 ·intro h
  have := congrArg (fun s : ByteArray => s.data.toList) h
  simpa [bs] using this
 ·intro h; rw [h]
theorem add_bs {a b : List UInt8} (h : a.length + b.length ≤ 1000) (w : World) : (Op.stringOp .add (bs a) (bs b)).run Tryz.prog w = .ok (.string (bs (a ++ b))) w := by
 have := run_string_add_sum (P := Tryz.prog) w (bs a) (bs b) (by rw [bs_size, bs_size]; omega)
 rw [bs_app] at this
 exact this
end Go.Proofs.YteddfolhpoikcaaGreatDoor
namespace Go.Proofs.YteddfolhpoikcaaGreatDoor
open Go.RowKit

/-- n numbers as the model holds them -/
def cln (n : Nat) (f : Nat → Int) : Array Value := ((List.range n).map fun k => Value.int .i64 (f k)).toArray
theorem cln_size (n : Nat) (f : Nat → Int) : (cln n f).size = n := by unfold cln; simp
theorem cln_get {n : Nat} {f : Nat → Int} {k : Nat} (h : k < n) : (cln n f)[k]? = some (.int .i64 (f k)) := by
 unfold cln
 rw [List.getElem?_toArray, List.getElem?_map, List.getElem?_range h]; rfl
theorem cln_congr {n : Nat} {f g : Nat → Int} (h : ∀ k, k < n → f k = g k) : cln n f = cln n g := by
 unfold cln
 congr 1
 apply List.map_congr_left
 intro k hk
 rw [h k (List.mem_range.1 hk)]
theorem cln_set {n : Nat} {f : Nat → Int} {i : Nat} {v : Int} (h : i < n) : (cln n f).setIfInBounds i (.int .i64 v) = cln n (fun k => if k = i then v else f k) := by
 apply Array.ext_getElem?
 intro k
 rw [Array.getElem?_setIfInBounds]
 by_cases hk : k < n
 ·rw [cln_get hk]
  by_cases e : i = k
  ·subst e; rw [if_pos rfl, if_pos (by rw [cln_size]; exact h), cln_get h, if_pos rfl]
  ·rw [if_neg e, cln_get hk, if_neg (fun x => e x.symm)]
 ·have h1 : (cln n fun k => if k = i then v else f k)[k]? = none := by rw [Array.getElem?_eq_none_iff, cln_size]; omega
  rw [h1]
  by_cases e : i = k
  ·omega
  ·rw [if_neg e, Array.getElem?_eq_none_iff, cln_size]; omega
theorem wpList_store_row' {P : Program} {ops : Array Oper} {rest : List Oper} {o : Oper} {a : Act} {w : World} {Q : Exit → Act → World → Prop} (hgd : o.guard = none) (ty : TypeId) (x y : Operand) (ho : o.op = .store ty x y)
 (g : Nat) (cells : Array Value) (hx : a.eval x = .pointer (some ⟨g, 0, none⟩)) (hy : a.eval y = .agg cells)
 (t : TypeId) (old : Array Value) (hg : w.heap[g]? = some (.cells old t (0, 0))) (hi : (P.info? ty).map (·.size) = some cells.size)
 (hold : old.size = cells.size) (h1 : cells.all (·.oneCell') = true)
 (h : wpList P ops Q rest (a.put o.dst undef) (w.setRow g cells)) : wpList P ops Q (o :: rest) a w :=
 wpList_plain hgd fun _ hK => wp_store_row ty x y ho g cells hx hy t old hg hi hold h1 (hK _ _ h)
/-- block g holds these numbers -/
structure Row (W : World) (g : Nat) (t : TypeId) (n : Nat) (f : Nat → Int) : Prop where
 heap : W.heap[g]? = some (.cells (cln n f) t (0, 0))
variable {W W' : World} {g : Nat} {t : TypeId} {n : Nat} {f : Nat → Int}
theorem Row.lt (h : Row W g t n f) : g < W.heap.size := (Array.getElem?_eq_some_iff.1 h.heap).1
theorem Row.cell (h : Row W g t n f) {k : Nat} (hk : k < n) : W.cell? ⟨g, k, none⟩ = some (.int .i64 (f k)) := by
 rw [cell_of_row W g k _ t _ h.heap, cln_get hk]
theorem Row.frozen (h : Row W g t n f) (k : Nat) : W.frozen? ⟨g, k, none⟩ = false := frozen_of_row W g k _ t h.heap
theorem Row.step (h : Row W g t n f) (hb : Below W.heap.size W W') : Row W' g t n f := ⟨by rw [hb.block g h.lt]; exact h.heap⟩
theorem Row.congr (h : Row W g t n f) {f' : Nat → Int} (e : ∀ k, k < n → f k = f' k) : Row W g t n f' := ⟨by rw [h.heap, cln_congr e]⟩
theorem Row.set (h : Row W g t n f) {i : Nat} (hi : i < n) (v : Int) : Row (W.setCell ⟨g, i, none⟩ (.int .i64 v)) g t n (fun k => if k = i then v else f k) :=
 ⟨by rw [heap_setCell_same W g i _ t _ h.heap, cln_set hi]⟩
theorem Row.other (h : Row W g t n f) (a : Addr) (v : Value) (hne : g ≠ a.block) : Row (W.setCell a v) g t n f :=
 ⟨by rw [heap_setCell_other W a g v hne]; exact h.heap⟩
theorem Row.setRow (h : Row W g t n f) (f' : Nat → Int) : Row (W.setRow g (cln n f')) g t n f' := ⟨setRow_heap W g _ _ t _ h.heap⟩
theorem Row.otherRow (h : Row W g t n f) (k : Nat) (cs : Array Value) (hne : g ≠ k) : Row (W.setRow k cs) g t n f := ⟨by rw [setRow_other W k g cs hne]; exact h.heap⟩
end Go.Proofs.YteddfolhpoikcaaGreatDoor
namespace Go.Proofs.YteddfolhpoikcaaGreatDoor
open Go.RowKit

/-- two results, the first a struct in a block -/
theorem results_cell_tmp {P : Program} {fn : Func} {p u : Tmp} {ty : TypeId} (h : fn.results = #[.cell p ty, .tmp u]) (tmps : Array Value) (w : World) (g : Nat) (t : TypeId) (cs : Array Value) (fr : Nat × Nat) (d : TypeDesc)
 (hp : tmps.getD p undef = .pointer (some ⟨g, 0, none⟩)) (hg : w.heap[g]? = some (.cells cs t fr))
 (hu : P.underlying ty = some d) (hd : (match d with | .struct _ | .array _ _ => true | _ => false) = true) (hi : (P.info? ty).map (·.size) = some cs.size) :
 (results fn tmps).run P w = .ok (.tuple #[.agg cs, tmps.getD u undef]) w := by
 have hp' : tmps[p]?.getD undef = .pointer (some ⟨g, 0, none⟩) := by simpa using hp
 simp [results, h, hp', asAddr, run_loadVar_row w g t ty cs fr d hg hu hd hi]
end Go.Proofs.YteddfolhpoikcaaGreatDoor
namespace Go.Proofs.YteddfolhpoikcaaGreatDoor
open Go.RowKit

/-- rows of numbers at blocks, as every world of a loop has them -/
structure Nums (w : World) (g : Nat) (l : List Int) (W : World) : Prop where
 below : Below w.heap.size w W
 size : g < W.heap.size
 ints : ∀ i, i < l.length → W.cell? ⟨g, i, none⟩ = some (.int .i64 (l.getD i 0))
theorem Nums.step {w W W' : World} {g : Nat} {l : List Int} (h : Nums w g l W) (hb : Below W.heap.size W W') : Nums w g l W' :=
 ⟨h.below.trans (hb.mono h.below.size), by have := hb.size; have := h.size; omega, fun i hi => by rw [hb.cell (p := ⟨g, i, none⟩) h.size]; exact h.ints i hi⟩
structure Bl (w W : World) : Prop where
 below : Below w.heap.size w W
theorem Bl.step {w W W' : World} (h : Bl w W) (hb : Below W.heap.size W W') : Bl w W' := ⟨h.below.trans (hb.mono h.below.size)⟩
end Go.Proofs.YteddfolhpoikcaaGreatDoor
namespace Go.Proofs.YteddfolhpoikcaaGreatDoor
open Go.RowKit

theorem below1 (w : World) (o1 : Obj) : Below w.heap.size w (w.alloc o1) := (Below.refl _ _).alloc (Nat.le_refl _) _
theorem below2 (w : World) (o1 o2 : Obj) : Below w.heap.size w ((w.alloc o1).alloc o2) := (below1 w o1).alloc (by simp) _
theorem below3 (w : World) (o1 o2 o3 : Obj) : Below w.heap.size w (((w.alloc o1).alloc o2).alloc o3) := (below2 w o1 o2).alloc (by simp; omega) _
theorem below4 (w : World) (o1 o2 o3 o4 : Obj) : Below w.heap.size w ((((w.alloc o1).alloc o2).alloc o3).alloc o4) := (below3 w o1 o2 o3).alloc (by simp; omega) _
end Go.Proofs.YteddfolhpoikcaaGreatDoor
namespace Go.Proofs.YteddfolhpoikcaaGreatDoor
open Go.RowKit

set_option maxHeartbeats 400000 in
theorem differ_any (a b : Int) (w : World) :
 Calls Tryz.prog 71 #[.int .i64 a, .int .i64 b] w fun e w' => e = .returned (.bool (differB a b)) ∧ w = w' := by
 go_enter Tryz.func71, Tryz.ntmps71
 go_wp2
 go_ret
 exact ⟨ret_bool (by unfold differB; cases decide (a < 0) <;> cases decide (b < 0) <;> rfl), rfl⟩
theorem differ_is {a b : Int} {c : Bool} (h : differB a b = c) (w : World) :
 Calls Tryz.prog 71 #[.int .i64 a, .int .i64 b] w fun e w' => e = .returned (.bool c) ∧ w = w' := h ▸ differ_any a b w
end Go.Proofs.YteddfolhpoikcaaGreatDoor
