/-
  DERIVED. SMALL RUNS, told by their days one by one. No program.
-/
import Derived.Test.YteddfolhpoikcaaDoorPPa
namespace Go.Proofs.YteddfolhpoikcaaDoor

/-- a right run as plain data: the kind modulo 8, the length modulo 16, the first day -/
def ofR (k l o : Int) : Rn := ⟨if k = 0 ∨ k = 2 then -1 else 0, if k = 0 ∨ k = 2 then 0 else o, if k = 1 ∨ k = 2 then 1 else 0, if k = 1 ∨ k = 2 then 0 else o + l⟩
theorem ofR_ok {k l o : Int} (l0 : 0 ≤ l) (l1 : l ≤ 15) (o0 : -32768 ≤ o) (o1 : o ≤ 32767) : (ofR k l o).Ok := by
  unfold ofR
  by_cases h1 : k = 0 ∨ k = 2
  · by_cases h2 : k = 1 ∨ k = 2
    · simp only [if_pos h1, if_pos h2]
      refine ⟨⟨?_, ?_, ?_, ?_⟩, ?_, ?_, ?_⟩ <;> simp only <;> intros <;> (first | omega | simp)
    · simp only [if_pos h1, if_neg h2]
      refine ⟨⟨?_, ?_, ?_, ?_⟩, ?_, ?_, ?_⟩ <;> simp only <;> intros <;> (first | omega | simp)
  · by_cases h2 : k = 1 ∨ k = 2
    · simp only [if_neg h1, if_pos h2]
      refine ⟨⟨?_, ?_, ?_, ?_⟩, ?_, ?_, ?_⟩ <;> simp only <;> intros <;> (first | omega | simp)
    · simp only [if_neg h1, if_neg h2]
      refine ⟨⟨?_, ?_, ?_, ?_⟩, ?_, ?_, ?_⟩ <;> simp only <;> intros <;> (first | omega | simp)
/-- a small run -/
structure Small (r : Rn) : Prop where
  ok : r.Ok
  lo : r.lo = -18446744073709551616 ∨ -39 ≤ r.lo ∧ r.lo ≤ 39
  hi : r.hi = 18446744073709551616 ∨ -39 ≤ r.hi ∧ r.hi ≤ 54
theorem ofR_small {k l o : Int} (l0 : 0 ≤ l) (l1 : l ≤ 15) (o0 : -39 ≤ o) (o1 : o ≤ 39) : Small (ofR k l o) := by
  have h := ofR_ok (k := k) l0 l1 (show -32768 ≤ o by omega) (show o ≤ 32767 by omega)
  have p := h.pos.pl
  have q := h.pos.ph
  refine ⟨h, ?_, ?_⟩
  · rcases p with p | p
    · right
      have : (ofR k l o).d = o ∨ (ofR k l o).d = 0 := by unfold ofR; simp only; split; exact .inr rfl; exact .inl rfl
      omega
    · left; exact p.2.2
  · rcases q with q | q
    · right
      have : (ofR k l o).e = o + l ∨ (ofR k l o).e = 0 := by unfold ofR; simp only; split; exact .inr rfl; exact .inl rfl
      omega
    · left; exact q.2.2
/-- is there one of the first n days, from -60 on -/
def anyTo (f : Int → Bool) : Nat → Bool
  | 0 => false
  | n + 1 => anyTo f n || f (-60 + (n : Int))
theorem anyTo_iff (f : Int → Bool) (n : Nat) : anyTo f n = true ↔ ∃ d, -60 ≤ d ∧ d < -60 + (n : Int) ∧ f d = true := by
  induction n with
  | zero => simp [anyTo]; intro x _ _; omega
  | succ n ih =>
    unfold anyTo
    rw [Bool.or_eq_true, ih]
    constructor
    · rintro (⟨d, h1, h2, h3⟩ | h)
      · exact ⟨d, h1, by omega, h3⟩
      · exact ⟨-60 + (n : Int), by omega, by omega, h⟩
    · rintro ⟨d, h1, h2, h3⟩
      by_cases e : d = -60 + (n : Int)
      · right; rw [← e]; exact h3
      · left; exact ⟨d, h1, by omega, h3⟩
theorem Small.has {r : Rn} (h : Small r) (x : Int) : hasN r x = true ↔ r.lo ≤ x ∧ x ≤ r.hi := by rw [hasN_ok h.ok, decide_eq_true_iff]
theorem Small.hasNot {r : Rn} (h : Small r) (x : Int) : (!hasN r x) = true ↔ ¬ (r.lo ≤ x ∧ x ≤ r.hi) := by rw [hasN_ok h.ok, Bool.not_eq_true', decide_eq_false_iff_not]
theorem Small.chk {r : Rn} (h : Small r) : chkR r = 0 := (chkR_zero h.ok.toIn).2 h.ok
theorem both_is {a b : Rn} (ha : Small a) (hb : Small b) : anyTo (fun d => hasN a d && hasN b d) 121 = meetN a b := by
  have a1 := ha.lo; have a2 := ha.hi; have a3 := ha.ok.pos.le
  have b1 := hb.lo; have b2 := hb.hi; have b3 := hb.ok.pos.le
  rw [Bool.eq_iff_iff, anyTo_iff]
  unfold meetN
  rw [decide_eq_true_iff]
  simp only [Bool.and_eq_true, ha.has, hb.has]
  have c1 := ha.chk
  have c2 := hb.chk
  constructor
  · rintro ⟨d, h⟩; exact ⟨c1, c2, by omega⟩
  · rintro ⟨_, _, h⟩
    by_cases x : a.lo < -60
    · by_cases y : b.lo < -60
      · exact ⟨-60, by omega⟩
      · exact ⟨b.lo, by omega⟩
    · by_cases y : a.lo < b.lo
      · exact ⟨b.lo, by omega⟩
      · exact ⟨a.lo, by omega⟩
theorem out_is {a b : Rn} (ha : Small a) (hb : Small b) : anyTo (fun d => hasN a d && !hasN b d) 121 = !inN a b := by
  have a1 := ha.lo; have a2 := ha.hi; have a3 := ha.ok.pos.le
  have b1 := hb.lo; have b2 := hb.hi; have b3 := hb.ok.pos.le
  have c1 := ha.chk
  have c2 := hb.chk
  have hi : (!inN a b) = true ↔ ¬ (b.lo ≤ a.lo ∧ a.hi ≤ b.hi) := by unfold inN; rw [Bool.not_eq_true', decide_eq_false_iff_not]; exact ⟨fun h x => h ⟨c1, c2, x⟩, fun h x => h x.2.2⟩
  rw [Bool.eq_iff_iff, anyTo_iff, hi]
  simp only [Bool.and_eq_true, ha.has, hb.hasNot]
  constructor
  · rintro ⟨d, h⟩; omega
  · intro h
    by_cases x : a.lo < b.lo
    · by_cases y : a.lo < -60
      · exact ⟨-60, by omega⟩
      · exact ⟨a.lo, by omega⟩
    · by_cases y : 60 < a.hi
      · exact ⟨60, by omega⟩
      · exact ⟨a.hi, by omega⟩
theorem near_is {a b : Rn} (ha : Small a) (hb : Small b) : (meetN a b || anyTo (fun d => hasN a d && (hasN b (d - 1) || hasN b (d + 1))) 121) = touchN a b := by
  have a1 := ha.lo; have a2 := ha.hi; have a3 := ha.ok.pos.le
  have b1 := hb.lo; have b2 := hb.hi; have b3 := hb.ok.pos.le
  have c1 := ha.chk
  have c2 := hb.chk
  have hm : meetN a b = true ↔ a.lo ≤ b.hi ∧ b.lo ≤ a.hi := by unfold meetN; rw [decide_eq_true_iff]; exact ⟨fun h => h.2.2, fun h => ⟨c1, c2, h⟩⟩
  have ht : touchN a b = true ↔ a.lo ≤ b.hi + 1 ∧ b.lo ≤ a.hi + 1 := by unfold touchN; rw [decide_eq_true_iff]; exact ⟨fun h => h.2.2, fun h => ⟨c1, c2, h⟩⟩
  rw [Bool.eq_iff_iff, Bool.or_eq_true, anyTo_iff, hm, ht]
  simp only [Bool.and_eq_true, Bool.or_eq_true, ha.has, hb.has]
  constructor
  · rintro (h | ⟨d, h⟩) <;> omega
  · intro h
    by_cases x : a.lo ≤ b.hi ∧ b.lo ≤ a.hi
    · exact .inl x
    · right
      by_cases y : a.lo = b.hi + 1
      · exact ⟨a.lo, by omega⟩
      · exact ⟨a.hi, by omega⟩
def bothF (a b : Rn) (d : Int) : Bool := hasN a d && hasN b d
def outF (a b : Rn) (d : Int) : Bool := hasN a d && !hasN b d
def nearF (a b : Rn) (d : Int) : Bool := hasN a d && (hasN b (d - 1) || hasN b (d + 1))
theorem bothF_is {a b : Rn} (ha : Small a) (hb : Small b) : anyTo (bothF a b) 121 = meetN a b := both_is ha hb
theorem outF_is {a b : Rn} (ha : Small a) (hb : Small b) : anyTo (outF a b) 121 = !inN a b := out_is ha hb
theorem nearF_is {a b : Rn} (ha : Small a) (hb : Small b) : (meetN a b || anyTo (nearF a b) 121) = touchN a b := near_is ha hb
end Go.Proofs.YteddfolhpoikcaaDoor
