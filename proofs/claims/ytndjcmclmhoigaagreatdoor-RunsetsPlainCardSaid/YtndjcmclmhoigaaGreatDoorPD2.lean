/-
 DERIVED. Small run sets as plain data: which runs they have, that they are right, that all is told by their days. No program.
 DERIVED. A run set as plain data, and the run set that it means (the statements' own S). Written by mkrs8.py.
 DERIVED. Small run sets: what a walk day by day finds; when an end is infinite. No program.
-/
import Derived.Test.YtndjcmclmhoigaaGreatDoorPC3
import Derived.Test.YtndjcmclmhoigaaGreatDoorPB1
import Derived.Test.YtndjcmclmhoigaaGreatDoorPRsLives
import Derived.Test.YtndjcmclmhoigaaGreatDoorPRsOne
namespace Go.Proofs.YtndjcmclmhoigaaGreatDoor
open Go.RowKit
set_option maxRecDepth 100000

/-- the runs of plain data, from a day on -/
def daysS : Int → List (Int × Int) → List Rn
 | _, [] => []
 | x, p :: t => ⟨0, x + 2 + p.1 % 8, 0, x + 2 + p.1 % 8 + p.2 % 8⟩ :: daysS (x + 2 + p.1 % 8 + p.2 % 8) t
/-- the last day that they have -/
def endS : Int → List (Int × Int) → Int
 | x, [] => x
 | x, p :: t => endS (x + 2 + p.1 % 8 + p.2 % 8) t
theorem endS_add : ∀ (x : Int) (l : List (Int × Int)) (p : Int × Int), endS x (l ++ [p]) = endS x l + 2 + p.1 % 8 + p.2 % 8
 | _, [], _ => rfl
 | x, q :: t, p => endS_add (x + 2 + q.1 % 8 + q.2 % 8) t p
theorem daysS_add : ∀ (x : Int) (l : List (Int × Int)) (p : Int × Int), daysS x (l ++ [p]) = daysS x l ++ [⟨0, endS x l + 2 + p.1 % 8, 0, endS x l + 2 + p.1 % 8 + p.2 % 8⟩]
 | _, [], _ => rfl
 | x, q :: t, p => by
  show _ :: daysS _ (t ++ [p]) = _ :: (daysS _ t ++ _)
  rw [daysS_add _ t p]
  rfl
theorem daysS_len : ∀ (x : Int) (l : List (Int × Int)), (daysS x l).length = l.length
 | _, [] => rfl
 | x, q :: t => by show (daysS _ t).length + 1 = t.length + 1; rw [daysS_len]
/-- the ends of a run lie among few days, or are infinite -/
structure Sm (r : Rn) : Prop where
 lo : r.f = 0 ∧ -60 < r.d ∧ r.d < 260 ∨ r.f = -1 ∧ r.d = 0
 hi : r.g = 0 ∧ -60 < r.e ∧ r.e < 260 ∨ r.g = 1 ∧ r.e = 0
theorem Sm.pos {r : Rn} (h : Sm r) : (-60 < r.lo ∧ r.lo < 260 ∨ r.lo = -18446744073709551616) ∧ (-60 < r.hi ∧ r.hi < 260 ∨ r.hi = 18446744073709551616) := by
 have h1 := h.lo
 have h2 := h.hi
 unfold Rn.lo Rn.hi posE
 constructor
 ·rcases h1 with ⟨e, a, b⟩ | ⟨e, _⟩
  ·rw [if_pos e]; exact .inl ⟨a, b⟩
  ·rw [if_neg (by omega), if_pos (by omega)]; exact .inr rfl
 ·rcases h2 with ⟨e, a, b⟩ | ⟨e, _⟩
  ·rw [if_pos e]; exact .inl ⟨a, b⟩
  ·rw [if_neg (by omega), if_neg (by omega)]; exact .inr rfl
theorem Sm.in' {r : Rn} (h : Sm r) : r.In := by
 have h1 := h.lo
 have h2 := h.hi
 exact ⟨by omega, by omega, by omega, by omega⟩
theorem day_lo (d e : Int) : Rn.lo ⟨0, d, 0, e⟩ = d := by unfold Rn.lo posE; rw [if_pos rfl]
theorem day_hi (d e : Int) : Rn.hi ⟨0, d, 0, e⟩ = e := by unfold Rn.hi posE; rw [if_pos rfl]
/-- a right set of few days, all of them behind a day -/
structure SmS (x : Int) (l : List Rn) : Prop where
 can : RsCan l
 sm : ∀ r, r ∈ l → Sm r
 from' : ∀ r, r ∈ l → x + 2 ≤ r.lo
theorem daysS_sm : ∀ (x : Int) (l : List (Int × Int)), -60 ≤ x → x + 16 * (l.length : Int) < 260 → SmS x (daysS x l)
 | _, [], _, _ => ⟨rsc_nil, fun _ h => (by cases h), fun _ h => (by cases h)⟩
 | x, p :: t, h0, h1 => by
  have h1' : x + 16 * ((t.length + 1 : Nat) : Int) < 260 := h1
  have hp : 0 ≤ p.1 % 8 ∧ p.1 % 8 < 8 ∧ 0 ≤ p.2 % 8 ∧ p.2 % 8 < 8 := by omega
  have ih := daysS_sm (x + 2 + p.1 % 8 + p.2 % 8) t (by omega) (by omega)
  have hs : Sm ⟨0, x + 2 + p.1 % 8, 0, x + 2 + p.1 % 8 + p.2 % 8⟩ := ⟨.inl ⟨rfl, by show -60 < x + 2 + p.1 % 8; omega, by show x + 2 + p.1 % 8 < 260; omega⟩, .inl ⟨rfl, by show -60 < x + 2 + p.1 % 8 + p.2 % 8; omega, by show x + 2 + p.1 % 8 + p.2 % 8 < 260; omega⟩⟩
  show SmS x (⟨0, x + 2 + p.1 % 8, 0, x + 2 + p.1 % 8 + p.2 % 8⟩ :: daysS (x + 2 + p.1 % 8 + p.2 % 8) t)
  refine ⟨rsc_cons.2 ⟨{ toIn := hs.in', lof := .inl rfl, hif := .inl rfl, le := fun _ _ => by show x + 2 + p.1 % 8 ≤ x + 2 + p.1 % 8 + p.2 % 8; omega }, fun b hb => ?_, ih.can⟩, fun r hr => ?_, fun r hr => ?_⟩
  ·have := ih.from' b hb
   rw [day_hi]; omega
  ·rcases List.mem_cons.1 hr with rfl | hr
   ·exact hs
   ·exact ih.sm r hr
  ·rcases List.mem_cons.1 hr with rfl | hr
   ·rw [day_lo]; omega
   ·have := ih.from' r hr; omega
/-- with an infinite low end (or as it is) -/
def loS (k : Int) : List Rn → List Rn
 | [] => []
 | r :: t => (if k % 8 = 1 ∨ k % 8 = 3 then ⟨-1, 0, r.g, r.e⟩ else r) :: t
/-- with an infinite high end (or as it is) -/
def hiS (k : Int) : List Rn → List Rn
 | [] => []
 | [r] => [if k % 8 = 2 ∨ k % 8 = 3 then ⟨r.f, r.d, 1, 0⟩ else r]
 | r :: s :: t => r :: hiS k (s :: t)
def setS (x : Int) (l : List (Int × Int)) (k : Int) : List Rn := hiS k (loS k (daysS x (l.take 12)))
theorem loS_len (k : Int) : ∀ l : List Rn, (loS k l).length = l.length
 | [] => rfl
 | _ :: _ => rfl
theorem hiS_len (k : Int) : ∀ l : List Rn, (hiS k l).length = l.length
 | [] => rfl
 | [_] => rfl
 | _ :: s :: t => by show (hiS k (s :: t)).length + 1 = _; rw [hiS_len]; rfl
theorem hiS_add (k : Int) (r : Rn) : ∀ l : List Rn, hiS k (l ++ [r]) = l ++ [if k % 8 = 2 ∨ k % 8 = 3 then ⟨r.f, r.d, 1, 0⟩ else r]
 | [] => rfl
 | [s] => rfl
 | s :: u :: t => by
  show s :: hiS k ((u :: t) ++ [r]) = s :: ((u :: t) ++ _)
  rw [hiS_add k r (u :: t)]
structure Rs (l : List Rn) : Prop where
 can : RsCan l
 sm : ∀ r, r ∈ l → Sm r
theorem loS_rs {k : Int} {l : List Rn} (h : Rs l) : Rs (loS k l) := by
 cases l with
 | nil => exact h
 | cons r t =>
  by_cases hk : k % 8 = 1 ∨ k % 8 = 3
  ·have hc := rsc_cons.1 h.can
   have hs := h.sm r (by simp)
   have hs2 : Sm ⟨-1, 0, r.g, r.e⟩ := ⟨.inr ⟨rfl, rfl⟩, hs.hi⟩
   have e : loS k (r :: t) = ⟨-1, 0, r.g, r.e⟩ :: t := by show (if k % 8 = 1 ∨ k % 8 = 3 then (⟨-1, 0, r.g, r.e⟩ : Rn) else r) :: t = _; rw [if_pos hk]
   rw [e]
   refine ⟨rsc_cons.2 ⟨{ toIn := hs2.in', lof := .inr ⟨rfl, rfl⟩, hif := hc.1.hif, le := fun q => absurd (show (-1 : Int) = 0 from q) (by decide) }, hc.2.1, hc.2.2⟩, fun q hq => ?_⟩
   rcases List.mem_cons.1 hq with rfl | hq
   ·exact hs2
   ·exact h.sm q (List.mem_cons.2 (.inr hq))
  ·have e : loS k (r :: t) = r :: t := by show (if k % 8 = 1 ∨ k % 8 = 3 then (⟨-1, 0, r.g, r.e⟩ : Rn) else r) :: t = _; rw [if_neg hk]
   rw [e]; exact h
theorem hiS_rs {k : Int} : ∀ {l : List Rn}, Rs l → Rs (hiS k l) ∧ ∀ r, r ∈ hiS k l → ∃ q, q ∈ l ∧ q.lo = r.lo
 | [], h => ⟨h, fun _ hr => (by cases hr)⟩
 | [r], h => by
  by_cases hk : k % 8 = 2 ∨ k % 8 = 3
  ·have hc := rsc_cons.1 h.can
   have hs := h.sm r (by simp)
   have hs2 : Sm ⟨r.f, r.d, 1, 0⟩ := ⟨hs.lo, .inr ⟨rfl, rfl⟩⟩
   have e : hiS k [r] = [⟨r.f, r.d, 1, 0⟩] := by unfold hiS; rw [if_pos hk]
   rw [e]
   refine ⟨⟨rsc_one { toIn := hs2.in', lof := hc.1.lof, hif := .inr ⟨rfl, rfl⟩, le := fun _ q => absurd (show (1 : Int) = 0 from q) (by decide) }, fun q hq => ?_⟩, fun q hq => ?_⟩
   ·rcases List.mem_singleton.1 hq with rfl; exact hs2
   ·rcases List.mem_singleton.1 hq with rfl; exact ⟨r, by simp, rfl⟩
  ·have e : hiS k [r] = [r] := by unfold hiS; rw [if_neg hk]
   rw [e]; exact ⟨h, fun q hq => ⟨q, hq, rfl⟩⟩
 | r :: s :: t, h => by
  have hc := rsc_cons.1 h.can
  obtain ⟨h1, h2⟩ := hiS_rs (k := k) (l := s :: t) ⟨hc.2.2, fun q hq => h.sm q (List.mem_cons.2 (.inr hq))⟩
  show Rs (r :: hiS k (s :: t)) ∧ ∀ q, q ∈ r :: hiS k (s :: t) → _
  refine ⟨⟨rsc_cons.2 ⟨hc.1, fun b hb => ?_, h1.can⟩, fun q hq => ?_⟩, fun q hq => ?_⟩
  ·obtain ⟨q, hq, e⟩ := h2 b hb
   rw [← e]; exact hc.2.1 q hq
  ·rcases List.mem_cons.1 hq with rfl | hq
   ·exact h.sm _ (by simp)
   ·exact h1.sm q hq
  ·rcases List.mem_cons.1 hq with rfl | hq
   ·exact ⟨q, by simp, rfl⟩
   ·obtain ⟨y, hy, e⟩ := h2 q hq
    exact ⟨y, List.mem_cons.2 (.inr hy), e⟩
theorem setS_rs {x : Int} {l : List (Int × Int)} {k : Int} (h0 : -40 ≤ x) (h1 : x ≤ 40) : Rs (setS x l k) := by
 have hl : (l.take 12).length ≤ 12 := by rw [List.length_take]; omega
 have h := daysS_sm x (l.take 12) (by omega) (by omega)
 exact (hiS_rs (loS_rs ⟨h.can, h.sm⟩)).1
theorem setS_len (x : Int) (l : List (Int × Int)) (k : Int) : (setS x l k).length ≤ 12 := by
 unfold setS
 rw [hiS_len, loS_len, daysS_len, List.length_take]
 omega
variable {l m n u : List Rn}
theorem Rs.inl (h : Rs l) : InL l := fun r hr => (h.sm r hr).in'
theorem Rs.chk (h : Rs l) (hn : l.length ≤ 12) : chkRs l = 0 := (chkRs_zero h.inl).2 ⟨by omega, h.can⟩
/-- few days tell all places -/
theorem Rs.low (h : Rs l) {x : Int} (hx : x ≤ -60) : memR l x ↔ -18446744073709551616 ≤ x ∧ memR l (-60) := by
 constructor
 ·rintro ⟨r, hr, a, b⟩
  have := (h.sm r hr).pos
  exact ⟨by omega, r, hr, by omega, by omega⟩
 ·rintro ⟨hx2, r, hr, a, b⟩
  have := (h.sm r hr).pos
  exact ⟨r, hr, by omega, by omega⟩
theorem Rs.high (h : Rs l) {x : Int} (hx : 260 ≤ x) : memR l x ↔ x ≤ 18446744073709551616 ∧ memR l 260 := by
 constructor
 ·rintro ⟨r, hr, a, b⟩
  have := (h.sm r hr).pos
  exact ⟨by omega, r, hr, by omega, by omega⟩
 ·rintro ⟨hx2, r, hr, a, b⟩
  have := (h.sm r hr).pos
  exact ⟨r, hr, by omega, by omega⟩
theorem sub_days (hl : Rs l) (hm : Rs m) : (∀ x, memR l x → memR m x) ↔ ∀ x, -60 ≤ x → x ≤ 260 → memR l x → memR m x := by
 constructor
 ·exact fun h x _ _ => h x
 ·intro h x hx
  by_cases h1 : x ≤ -60
  ·have := (hl.low h1).1 hx
   exact (hm.low h1).2 ⟨this.1, h _ (by omega) (by omega) this.2⟩
  ·by_cases h2 : 260 ≤ x
   ·have := (hl.high h2).1 hx
    exact (hm.high h2).2 ⟨this.1, h _ (by omega) (by omega) this.2⟩
   ·exact h x (by omega) (by omega) hx
/-- the complement of the complement -/
theorem twice (hl : Rs l) (hn : IsRs n (fun x => memR [wholeR] x ∧ leftM l x)) : IsRs l (fun x => memR [wholeR] x ∧ leftM n x) := by
 refine ⟨hl.can, fun x => ?_⟩
 have hw : ∀ y, memR [wholeR] y ↔ (-18446744073709551616 ≤ y ∧ y ≤ 18446744073709551616) := fun y => memR_one
 have hN : ∀ y, memR n y ↔ (-18446744073709551616 ≤ y ∧ y ≤ 18446744073709551616) ∧ leftM l y := fun y => by rw [hn.mem y, hw y]
 have hL : ∀ y, memR l y → -18446744073709551616 ≤ y ∧ y ≤ 18446744073709551616 := fun y hy => by
  obtain ⟨r, hr, a, b⟩ := hy
  have := (hl.sm r hr).pos
  omega
 have hq : ∀ y, -18446744073709551616 ≤ y → y ≤ 18446744073709551616 → (leftM l y ↔ ¬ memR l y) := fun y y0 y1 => by
  constructor
  ·exact fun h => h.1
  ·intro h
   refine ⟨h, fun e q => h ?_, fun e q => h ?_⟩
   ·exact (hl.low (by omega)).2 ⟨y0, ((hl.low (by omega)).1 q).2⟩
   ·exact (hl.high (by omega)).2 ⟨y1, ((hl.high (by omega)).1 q).2⟩
 have hN2 : ∀ y, -18446744073709551616 ≤ y → y ≤ 18446744073709551616 → (memR n y ↔ ¬ memR l y) := fun y y0 y1 => by
  rw [hN y, hq y y0 y1]; exact ⟨fun h => h.2, fun h => ⟨⟨y0, y1⟩, h⟩⟩
 rw [hw x]
 constructor
 ·intro h
  obtain ⟨x0, x1⟩ := hL x h
  refine ⟨⟨x0, x1⟩, fun q => (hN2 x x0 x1).1 q h, fun e q => ?_, fun e q => ?_⟩
  ·exact (hN2 _ (by omega) (by omega)).1 q ((hl.low (by omega)).2 ⟨by omega, ((hl.low (by omega)).1 h).2⟩)
  ·exact (hN2 _ (by omega) (by omega)).1 q ((hl.high (by omega)).2 ⟨by omega, ((hl.high (by omega)).1 h).2⟩)
 ·rintro ⟨⟨x0, x1⟩, h, _, _⟩
  by_cases hx : memR l x
  ·exact hx
  ·exact absurd ((hN2 x x0 x1).2 hx) h
/-- how many of the days from -60 on -/
def cntD (p : Int → Bool) : Nat → Int
 | 0 => 0
 | k + 1 => cntD p k + (if p (-60 + (k : Int)) = true then 1 else 0)
theorem cntD_or {p q r : Int → Bool} (h : ∀ x, r x = (p x || q x)) (hd : ∀ x, ¬ (p x = true ∧ q x = true)) : ∀ k, cntD r k = cntD p k + cntD q k
 | 0 => rfl
 | k + 1 => by
  unfold cntD
  rw [cntD_or h hd k, h]
  have := hd (-60 + (k : Int))
  cases hp : p (-60 + (k : Int)) <;> cases hq : q (-60 + (k : Int)) <;> simp [hp, hq] at this ⊢ <;> omega
theorem cntD_run {d e : Int} (h0 : -60 ≤ d) (h1 : d ≤ e) : ∀ k : Nat, cntD (fun x => decide (d ≤ x ∧ x ≤ e)) k = if -60 + (k : Int) ≤ d then 0 else if -60 + (k : Int) ≤ e + 1 then -60 + (k : Int) - d else e + 1 - d
 | 0 => by rw [if_pos (by show -60 + (0 : Int) ≤ d; omega)]; rfl
 | k + 1 => by
  unfold cntD
  rw [cntD_run h0 h1 k]
  simp only [decide_eq_true_eq, Int.natCast_add, Int.cast_ofNat_Int]
  split <;> split <;> split <;> (try split) <;> (try split) <;> omega
theorem cntD_false : ∀ k, cntD (fun _ => false) k = 0
 | 0 => rfl
 | k + 1 => by unfold cntD; rw [cntD_false k]; rfl
theorem Rs.cnt : ∀ {l : List Rn}, Rs l → FinR l → cntS l = cntD (fun x => hasRs l x) 321
 | [], _, _ => by rw [show (fun x => hasRs [] x) = (fun _ : Int => false) from rfl, cntD_false]; rfl
 | r :: t, h, hf => by
  have hc := rsc_cons.1 h.can
  have ht : Rs t := ⟨hc.2.2, fun q hq => h.sm q (List.mem_cons.2 (.inr hq))⟩
  have ih := ht.cnt (fun q hq => hf q (List.mem_cons.2 (.inr hq)))
  have hr := h.sm r (by simp)
  obtain ⟨f0, g0⟩ := hf r (by simp)
  have l0 : r.lo = r.d := by unfold Rn.lo posE; rw [if_pos f0]
  have h0 : r.hi = r.e := by unfold Rn.hi posE; rw [if_pos g0]
  have hle := hc.1.le f0 g0
  have hlo := hr.lo
  have hhi := hr.hi
  have key := cntD_or (p := fun x => decide (r.d ≤ x ∧ x ≤ r.e)) (q := fun x => hasRs t x) (r := fun x => hasRs (r :: t) x) (fun x => by
   rw [Bool.eq_iff_iff, Bool.or_eq_true, has_can h.inl h.can, has_can ht.inl ht.can, memR_cons, decide_eq_true_iff]
   unfold Rn.has
   rw [l0, h0]) (fun x hx => by
   obtain ⟨h1, h2⟩ := hx
   have h1 := of_decide_eq_true h1
   have h2 := memR_behind h.can ((has_can ht.inl ht.can).1 h2)
   omega) 321
  rw [key, cntD_run (by omega) hle, ← ih, if_neg (by omega), if_neg (by omega)]
  show (1 + (r.e + -r.d)) + cntS t = _
  omega
end Go.Proofs.YtndjcmclmhoigaaGreatDoor
namespace Go.Proofs.YtndjcmclmhoigaaGreatDoor
open Go.RowKit
set_option maxRecDepth 100000

variable {w W W' u : World} {a : Option Addr} {L : List (Int × Int)} {l l' : List Rn} {g : Nat} {v : Value} {x k : Int}
/-- pairs of bytes at an address -/
structure Lp (w : World) (a : Option Addr) (L : List (Int × Int)) (W : World) : Prop where
 below : Below w.heap.size w W
 at2 : ∀ i p, L[i]? = some p → ∃ g o, a = some ⟨g, o, none⟩ ∧ g < W.heap.size ∧ W.cell? ⟨g, o + i * 2, none⟩ = some (.int .u8 p.1) ∧ W.cell? ⟨g, o + i * 2 + 1, none⟩ = some (.int .u8 p.2)
theorem Lp.step (h : Lp w a L W) (hb : Below W.heap.size W W') : Lp w a L W' :=
 ⟨h.below.trans (hb.mono h.below.size), fun i p hp => by
  obtain ⟨g, o, e, hg, c0, c1⟩ := h.at2 i p hp
  exact ⟨g, o, e, Nat.lt_of_lt_of_le hg hb.size, by rw [hb.cell (p := ⟨g, o + i * 2, none⟩) hg]; exact c0, by rw [hb.cell (p := ⟨g, o + i * 2 + 1, none⟩) hg]; exact c1⟩⟩
theorem Lp.now (h : Lp w a L W) : Lp W a L W := ⟨Below.refl _ _, h.at2⟩
/-- a row of the walk's own that holds runs -/
structure Rw (u : World) (g : Nat) (l : List Rn) (W : World) : Prop where
 below : Below u.heap.size u W
 base : u.heap.size ≤ g
 row : ∃ cur, W.heap[g]? = some (.cells cur 26 (0, 0)) ∧ cur.toList.take (l.length * 4) = vL l
theorem Ag.rw' (h : Ag u l v W) (hl : l ≠ []) : ∃ g cap, v = .slice (some ⟨g, 0, none⟩) l.length cap ∧ l.length ≤ cap ∧ Rw u g l W := by
 obtain ⟨_, ⟨rfl, hn⟩ | ⟨g, cap, cur, rfl, hb, hh, hc, hm, _, ht⟩⟩ := h.own
 ·exact absurd (List.length_eq_zero_iff.1 (by omega)) hl
 ·exact ⟨g, cap, rfl, hc, h.below, hb, cur, hh, ht⟩
theorem Rw.cellAt (h : Rw u g l W) {p j : Nat} {r : Rn} (hp : l[p]? = some r) (hj : j < 4) : W.cell? ⟨g, p * 4 + j, none⟩ = (cellsR r)[j]? := by
 obtain ⟨cur, hh, ht⟩ := h.row
 have hl : p < l.length := (List.getElem?_eq_some_iff.1 hp).1
 rw [cell_of_row W g _ cur _ _ hh, ← vL_at hp hj, ← ht, List.getElem?_take, if_pos (by omega), Array.getElem?_toList]
theorem Rw.frozen (h : Rw u g l W) (j : Nat) : W.frozen? ⟨g, j, none⟩ = false := by
 obtain ⟨cur, hh, _⟩ := h.row
 exact frozen_of_row W g j cur _ hh
theorem Rw.put (h : Rw u g l W) (i : Nat) (y : Value) (hv : (vL l).set i y = vL l') (hn : l'.length = l.length) : Rw u g l' (W.setCell ⟨g, i, none⟩ y) := by
 obtain ⟨cur, hh, ht⟩ := h.row
 refine ⟨h.below.setCell (p := ⟨g, i, none⟩) h.base y, h.base, cur.setIfInBounds i y, heap_setCell_same W g i _ _ y hh, ?_⟩
 rw [Array.toList_setIfInBounds, hn, List.take_set, ht, hv]
theorem Rw.lr (h : Rw u g l W) : Lr u (some ⟨g, 0, none⟩) l W := by
 refine ⟨h.below, fun p r hp => ?_⟩
 obtain ⟨cur, hh, _⟩ := h.row
 refine ⟨g, 0, rfl, (Array.getElem?_eq_some_iff.1 hh).1, ?_, ?_, ?_, ?_⟩
 ·rw [show 0 + p * 4 = p * 4 + 0 by omega]; exact h.cellAt hp (by omega)
 ·rw [show 0 + p * 4 + 1 = p * 4 + 1 by omega]; exact h.cellAt hp (by omega)
 ·rw [show 0 + p * 4 + 2 = p * 4 + 2 by omega]; exact h.cellAt hp (by omega)
 ·rw [show 0 + p * 4 + 3 = p * 4 + 3 by omega]; exact h.cellAt hp (by omega)
theorem loS_non (hk : ¬ (k % 8 = 1 ∨ k % 8 = 3)) : ∀ l : List Rn, loS k l = l
 | [] => rfl
 | r :: t => by show (if k % 8 = 1 ∨ k % 8 = 3 then (⟨-1, 0, r.g, r.e⟩ : Rn) else r) :: t = _; rw [if_neg hk]
theorem hiS_non (hk : ¬ (k % 8 = 2 ∨ k % 8 = 3)) : ∀ l : List Rn, hiS k l = l
 | [] => rfl
 | [r] => by unfold hiS; rw [if_neg hk]
 | r :: s :: t => by show r :: hiS k (s :: t) = _; rw [hiS_non hk (s :: t)]
theorem Rw.lo (h : Rw u g l W) (hl : 0 < l.length) (hk : k % 8 = 1 ∨ k % 8 = 3) : Rw u g (loS k l) ((W.setCell ⟨g, 0, none⟩ (.int .i8 (-1))).setCell ⟨g, 1, none⟩ (.int .i64 0)) := by
 match l, hl with
 | r :: t, _ =>
  have e : loS k (r :: t) = ⟨-1, 0, r.g, r.e⟩ :: t := by show (if k % 8 = 1 ∨ k % 8 = 3 then (⟨-1, 0, r.g, r.e⟩ : Rn) else r) :: t = _; rw [if_pos hk]
  rw [e]
  have h1 : Rw u g (⟨-1, r.d, r.g, r.e⟩ :: t) (W.setCell ⟨g, 0, none⟩ (.int .i8 (-1))) := h.put 0 _ rfl rfl
  exact h1.put 1 _ rfl rfl
theorem Rw.hi {q : Nat} (h : Rw u g l W) (hl : l.length = q + 1) (hk : k % 8 = 2 ∨ k % 8 = 3) : Rw u g (hiS k l) ((W.setCell ⟨g, q * 4 + 2, none⟩ (.int .i8 1)).setCell ⟨g, q * 4 + 3, none⟩ (.int .i64 0)) := by
 obtain ⟨t, r, rfl⟩ : ∃ t r, l = t ++ [r] := by
  rcases List.eq_nil_or_concat l with rfl | ⟨t, r, e⟩
  ·cases hl
  ·exact ⟨t, r, by rw [e, List.concat_eq_append]⟩
 have ht : t.length = q := by rw [List.length_append] at hl; simp at hl; exact hl
 subst ht
 rw [hiS_add, if_pos hk]
 have key : ∀ (s : Rn) (j : Nat) (y : Value), (vL (t ++ [s])).set (t.length * 4 + j) y = vL t ++ (cellsR s).set j y := fun s j y => by
  rw [vL_add, List.set_append_right (t.length * 4 + j) y (by rw [vL_len]; omega), vL_len, show t.length * 4 + j - t.length * 4 = j by omega]
  show vL t ++ (cellsR s ++ []).set j y = _
  rw [List.append_nil]
 have e2 : ∀ s : Rn, vL (t ++ [s]) = vL t ++ cellsR s := fun s => by
  rw [vL_add]; show vL t ++ (cellsR s ++ []) = _; rw [List.append_nil]
 have h1 : Rw u g (t ++ [⟨r.f, r.d, 1, r.e⟩]) (W.setCell ⟨g, t.length * 4 + 2, none⟩ (.int .i8 1)) := h.put _ _ (by rw [key, e2]; rfl) (by simp)
 exact h1.put _ _ (by rw [key, e2]; rfl) (by simp)
/-- a list of runs, as it is returned, with room for its elements -/
def LsQ (w : World) (m : List Rn) (x : Ending) (w' : World) : Prop := (∃ b p, x = .returned (.slice b m.length p) ∧ m.length ≤ p ∧ Lr w b m w') ∧ Below w.heap.size w w'
theorem ls_ofq {m : List Rn} (h : Ag u m v W) (hw : Below w.heap.size w u) : LsQ w m (.returned v) W := by
 obtain ⟨⟨⟨b, p, e, _, h1⟩, h2⟩, b', p', e', h3⟩ := ls_ofc h hw
 refine ⟨⟨b, p, e, ?_, h1⟩, h2⟩
 rw [e] at e'
 injection e' with e'
 injection e' with _ _ e'
 rw [e']; exact h3
theorem Rw.ls (h : Rw u g l W) (hw : Below w.heap.size w u) {n c : Nat} (hn : l.length = n) (hc : l.length ≤ c) : LsQ w l (.returned (.slice (some ⟨g, 0, none⟩) n c)) W := by
 subst hn
 exact ⟨⟨_, c, rfl, hc, h.lr.from' hw⟩, hw.trans (h.below.mono hw.size)⟩
set_option maxHeartbeats 8000000 in
theorem ofS_is {cap : Nat} (x0 : -40 ≤ x) (x1 : x ≤ 40) (k0 : 0 ≤ k) (hby : ∀ p, p ∈ L → 0 ≤ p.1 ∧ p.1 ≤ 255 ∧ 0 ≤ p.2 ∧ p.2 ≤ 255) (nl : L.length ≤ maxLen) (hL : Lp w a L w) :
 Calls Tryz.prog 66 #[.agg #[.int .i16 x, .slice a L.length cap, .int .u8 k]] w (LsQ w (setS x L k)) := by
 have HL := Kp.mk hL
 have HY := Kp.mk hby
 obtain ⟨n, hn⟩ : ∃ n, L.length = n := ⟨_, rfl⟩
 have HN := Kp.mk hn
 have nb : n ≤ 9223372036854775807 := by unfold maxLen at nl; omega
 obtain ⟨m, hm⟩ : ∃ m, k % 8 = m := ⟨_, rfl⟩
 have HM := Kp.mk hm
 have m0 : 0 ≤ m := by omega
 have m7 : m ≤ 7 := by omega
 have w6 : k.tmod 8 = m := by rw [Int.tmod_eq_emod_of_nonneg k0]; exact hm
 have w7 : IntKind.u8.wrap m = m := by simp [IntKind.wrap, IntKind.signed, IntKind.bits]; omega
 have wx : IntKind.i64.wrap x = x := IntWalk.i64_in _ (by omega)
 rw [hn]
 clear hL hby nl hn hm k0
 have HV := Kp.mk (vs_new [.int .i16 x, .slice a n cap, .int .u8 k] 86 (Below.refl w.heap.size w))
 go_enter Tryz.func66, Tryz.ntmps66
 go_upto_region 1 with fail
 have HU := Kp.mk (Bl.mk HV.out.below)
 have HL := Kp.mk (HL.out.step ((Below.refl w.heap.size w).alloc (Nat.le_refl _) (.cells #[.int .i16 x, .slice a n cap, .int .u8 k] 86)))
 generalize w.alloc (.cells #[.int .i16 x, .slice a n cap, .int .u8 k] 86) = u at *
 generalize w.heap.size = gx at *
 have c0 := HV.out.cell 0 _ rfl
 have c1 := HV.out.cell 1 _ rfl
 have c2 := HV.out.cell 2 _ rfl
 go_wp2_with fail
 clear c0 c1 c2
 have HG := Kp.mk (ag_new u)
 go_loopw [3, 4, 5] (fun v t i wr => ∃ (p : Nat) (os : List Rn) (e : Int), p ≤ 12 ∧ p ≤ n ∧ t = .int .i64 e ∧ i = .int .i64 (p : Int) ∧ os.length ≤ 12 ∧ os.length = p ∧ x ≤ e ∧ e ≤ x + 16 * (p : Int) ∧ Kp (os = daysS x (L.take p) ∧ e = endS x (L.take p)) ∧ Kp (Ag u os v wr)) (fun _ _ i _ => 12 - (intOf i).toNat)
 case atStart => exact ⟨0, [], x, by omega, by omega, rfl, rfl, by simp, rfl, by omega, by omega, Kp.mk ⟨rfl, rfl⟩, HG⟩
 case round =>
  clear HG
  obtain ⟨p, os, e, hp, hpn, rfl, rfl, ho, hop, e0, e1, HO, HG⟩ := hrel
  have HVw := Kp.mk (HV.out.step HG.out.below)
  have c0 := HVw.out.cell 0 _ rfl
  have c1 := HVw.out.cell 1 _ rfl
  have c2 := HVw.out.cell 2 _ rfl
  have w1 : IntKind.i64.wrap ((p : Int) + 1) = (p : Int) + 1 := IntWalk.i64_in _ (by omega)
  by_cases h1 : p < n ∧ p < 12
  ·obtain ⟨hpn2, hp12⟩ := h1
   have d1 : decide ((p : Int) < (n : Int)) = true := decide_eq_true (by omega)
   have d2 : (p : Int) < (n : Int) := by omega
   have d3 : decide ((p : Int) < 12) = true := decide_eq_true (by omega)
   have d4 : (p : Int) < 12 := by omega
   obtain ⟨⟨y, z⟩, hy⟩ : ∃ q, L[p]? = some q := ⟨L[p]'(by have := HN.out; omega), List.getElem?_eq_getElem _⟩
   obtain ⟨by0, by1, by2, by3⟩ := HY.out _ (List.mem_of_getElem? hy)
   obtain ⟨y0, y1, z0, z1⟩ : 0 ≤ y ∧ y ≤ 255 ∧ 0 ≤ z ∧ z ≤ 255 := ⟨by0, by1, by2, by3⟩
   clear by0 by1 by2 by3
   have HT : Kp (L.take (p + 1) = L.take p ++ [(y, z)]) := Kp.mk (by rw [List.take_add_one, hy]; rfl)
   obtain ⟨g, s, rfl, hg, q0, q1⟩ := (HL.out.step HG.out.below).at2 p _ hy
   obtain ⟨i, hi⟩ : ∃ i, y % 8 = i := ⟨_, rfl⟩
   obtain ⟨j, hj⟩ : ∃ j, z % 8 = j := ⟨_, rfl⟩
   have i0 : 0 ≤ i ∧ i ≤ 7 := by omega
   have j0 : 0 ≤ j ∧ j ≤ 7 := by omega
   have v1 : y.tmod 8 = i := by rw [Int.tmod_eq_emod_of_nonneg y0]; exact hi
   have v2 : z.tmod 8 = j := by rw [Int.tmod_eq_emod_of_nonneg z0]; exact hj
   have v3 : IntKind.u8.wrap i = i := by simp [IntKind.wrap, IntKind.signed, IntKind.bits]; omega
   have v4 : IntKind.u8.wrap j = j := by simp [IntKind.wrap, IntKind.signed, IntKind.bits]; omega
   have v5 : IntKind.i64.wrap i = i := IntWalk.i64_in _ (by omega)
   have v6 : IntKind.i64.wrap j = j := IntWalk.i64_in _ (by omega)
   have v7 : IntKind.i64.wrap (e + 2) = e + 2 := IntWalk.i64_in _ (by omega)
   obtain ⟨lo, hlo⟩ : ∃ lo, e + 2 + i = lo := ⟨_, rfl⟩
   have v8 : IntKind.i64.wrap (e + 2 + i) = lo := by rw [hlo]; exact IntWalk.i64_in _ (by omega)
   obtain ⟨f, hf⟩ : ∃ f, lo + j = f := ⟨_, rfl⟩
   have v9 : IntKind.i64.wrap (lo + j) = f := by rw [hf]; exact IntWalk.i64_in _ (by omega)
   have f0 : x ≤ f := by omega
   have f1 : f ≤ x + 16 * ((p + 1 : Nat) : Int) := by omega
   have HO2 : Kp (os ++ [⟨0, lo, 0, f⟩] = daysS x (L.take (p + 1)) ∧ f = endS x (L.take (p + 1))) := Kp.mk (by
    rw [HT.out, daysS_add, endS_add, ← HO.out.1, ← HO.out.2]
    show os ++ [⟨0, lo, 0, f⟩] = os ++ [⟨0, e + 2 + y % 8, 0, e + 2 + y % 8 + z % 8⟩] ∧ f = e + 2 + y % 8 + z % 8
    rw [hi, hj, hlo, hf]
    exact ⟨rfl, rfl⟩)
   clear HT HO hy hi hj hlo hf y0 y1 z0 z1
   go_upto_region 8 with fail
   clear c0 c1 c2 q0 q1
   go_wp2_with (at_builtin; refine wpList_append_ls rfl (.tmp 42) (.tmp 48) rfl (HG.out.step ((Below.refl wr.heap.size wr).alloc (Nat.le_refl _) (.cells #[.int .i8 0, .int .i64 lo, .int .i8 0, .int .i64 f] 26))) (lr_one (w := w) ⟨0, lo, 0, f⟩ (HU.out.below.trans (HG.out.below.mono HU.out.below.size))) (fun e => (by cases e)) rfl rfl (by simp; omega) ?_)
   intro vn wn hgn
   have HG := Kp.mk hgn
   clear hgn
   go_wp2_with fail
   go_roundw
   case rel => exact ⟨p + 1, os ++ [⟨0, lo, 0, f⟩], f, by omega, by omega, rfl, by go_num, by rw [List.length_append]; simp; omega, by rw [List.length_append]; simp; omega, f0, f1, HO2, HG⟩
   case measure => simp [intOf]; omega
  ·have HE : Kp (os = daysS x (L.take 12)) := Kp.mk (by
    rw [HO.out.1]
    by_cases h2 : p = 12
    ·rw [h2]
    ·rw [List.take_of_length_le (by have := HN.out; omega), List.take_of_length_le (by have := HN.out; omega)])
   clear HO
   by_cases hpn2 : p < n
   ·have d1 : decide ((p : Int) < (n : Int)) = true := decide_eq_true (by omega)
    have d2 : (p : Int) < (n : Int) := by omega
    have d3 : decide ((p : Int) < 12) = false := decide_eq_false (by omega)
    have d4 : ¬ (p : Int) < 12 := by omega
    by_cases hz : os = []
    ·have p0 : p = 0 := by rw [← hop, hz]; rfl
     exact absurd p0 (by omega)
    ·by_cases m1 : m = 1
     ·obtain ⟨g, cp, hv, hcp0, hrw⟩ := HG.out.rw' hz
      have HCP := Kp.mk hcp0
      clear hcp0
      rw [hop] at hv
      subst hv
      have HR := Kp.mk hrw
      have HOP := Kp.mk hop
      clear hrw HG
      obtain ⟨q, hq⟩ : ∃ q, p = q + 1 := ⟨p - 1, by have : os.length ≠ 0 := fun e => hz (List.length_eq_zero_iff.1 e); omega⟩
      have HQ := Kp.mk hq
      have t0 : decide (0 < p) = true := decide_eq_true (by omega)
      have t1 : decide ((0 : Int) < (p : Int)) = true := decide_eq_true (by omega)
      have t2 : 0 < p := by omega
      have w8 : IntKind.i64.wrap ((p : Int) - 1) = (q : Int) := by rw [show (p : Int) - 1 = (q : Int) by omega]; exact IntWalk.i64_in _ (by omega)
      have q1 : (q : Int) < (p : Int) := by omega
      have q2 : q < p := by omega
      have e1 : (m == 1) = true := by rw [beq_iff_eq]; omega
      have e2 : (m == 2) = false := by rw [beq_eq_false_iff_ne]; omega
      have e3 : (m == 3) = false := by rw [beq_eq_false_iff_ne]; omega
      have HS : Kp (setS x L k = loS k os) := Kp.mk (by unfold setS; rw [← HE.out, hiS_non (by rw [HM.out]; omega)])
      have KL : Kp (k % 8 = 1 ∨ k % 8 = 3) := Kp.mk (by rw [HM.out]; omega)
      clear c0 c1 c2 HVw HE hz hop hq ho h1
      have c0 := (HV.out.step HR.out.below).cell 0 _ rfl
      have c1 := (HV.out.step HR.out.below).cell 1 _ rfl
      have c2 := (HV.out.step HR.out.below).cell 2 _ rfl
      obtain ⟨r0, hr0⟩ : ∃ r, (os)[0]? = some r := ⟨(os)[0]'(by have := HOP.out; have := HQ.out; omega), List.getElem?_eq_getElem _⟩
      obtain ⟨r1, hr1⟩ : ∃ r, (os)[q]? = some r := ⟨(os)[q]'(by have := HOP.out; have := HQ.out; omega), List.getElem?_eq_getElem _⟩
      have f0 := HR.out.frozen 0
      have f1 := HR.out.frozen 1
      have f2 := HR.out.frozen (q * 4 + 2)
      have f3 := HR.out.frozen (q * 4 + 3)
      have k0 : wr.cell? ⟨g, 0, none⟩ = some (.int .i8 r0.f) := HR.out.cellAt (p := 0) (j := 0) hr0 (by omega)
      have k1 : wr.cell? ⟨g, 1, none⟩ = some (.int .i64 r0.d) := HR.out.cellAt (p := 0) (j := 1) hr0 (by omega)
      have k2 : wr.cell? ⟨g, q * 4 + 2, none⟩ = some (.int .i8 r1.g) := HR.out.cellAt hr1 (by omega)
      have k3 : wr.cell? ⟨g, q * 4 + 3, none⟩ = some (.int .i64 r1.e) := HR.out.cellAt hr1 (by omega)
      clear hr0 hr1
      go_upto_region 11 with fail
      clear c0 c1 c2 f0 f1 f2 f3 k0 k1 k2 k3
      have HR := Kp.mk (HR.out.lo (by rw [HOP.out, HQ.out]; omega) KL.out)
      generalize (wr.setCell ⟨g, 0, none⟩ (.int .i8 (-1))).setCell ⟨g, 1, none⟩ (.int .i64 0) = w2 at *
      have c0 := (HV.out.step HR.out.below).cell 0 _ rfl
      have c1 := (HV.out.step HR.out.below).cell 1 _ rfl
      have c2 := (HV.out.step HR.out.below).cell 2 _ rfl
      obtain ⟨r0, hr0⟩ : ∃ r, (loS k os)[0]? = some r := ⟨(loS k os)[0]'(by rw [loS_len]; have := HOP.out; have := HQ.out; omega), List.getElem?_eq_getElem _⟩
      obtain ⟨r1, hr1⟩ : ∃ r, (loS k os)[q]? = some r := ⟨(loS k os)[q]'(by rw [loS_len]; have := HOP.out; have := HQ.out; omega), List.getElem?_eq_getElem _⟩
      have f0 := HR.out.frozen 0
      have f1 := HR.out.frozen 1
      have f2 := HR.out.frozen (q * 4 + 2)
      have f3 := HR.out.frozen (q * 4 + 3)
      have k0 : w2.cell? ⟨g, 0, none⟩ = some (.int .i8 r0.f) := HR.out.cellAt (p := 0) (j := 0) hr0 (by omega)
      have k1 : w2.cell? ⟨g, 1, none⟩ = some (.int .i64 r0.d) := HR.out.cellAt (p := 0) (j := 1) hr0 (by omega)
      have k2 : w2.cell? ⟨g, q * 4 + 2, none⟩ = some (.int .i8 r1.g) := HR.out.cellAt hr1 (by omega)
      have k3 : w2.cell? ⟨g, q * 4 + 3, none⟩ = some (.int .i64 r1.e) := HR.out.cellAt hr1 (by omega)
      clear hr0 hr1
      go_wp2_with fail
      go_ret
      rw [HS.out]
      exact HR.out.ls HU.out.below (by rw [loS_len, HOP.out]) (by rw [loS_len]; exact HCP.out)
     ·by_cases m2 : m = 2
      ·obtain ⟨g, cp, hv, hcp0, hrw⟩ := HG.out.rw' hz
       have HCP := Kp.mk hcp0
       clear hcp0
       rw [hop] at hv
       subst hv
       have HR := Kp.mk hrw
       have HOP := Kp.mk hop
       clear hrw HG
       obtain ⟨q, hq⟩ : ∃ q, p = q + 1 := ⟨p - 1, by have : os.length ≠ 0 := fun e => hz (List.length_eq_zero_iff.1 e); omega⟩
       have HQ := Kp.mk hq
       have t0 : decide (0 < p) = true := decide_eq_true (by omega)
       have t1 : decide ((0 : Int) < (p : Int)) = true := decide_eq_true (by omega)
       have t2 : 0 < p := by omega
       have w8 : IntKind.i64.wrap ((p : Int) - 1) = (q : Int) := by rw [show (p : Int) - 1 = (q : Int) by omega]; exact IntWalk.i64_in _ (by omega)
       have q1 : (q : Int) < (p : Int) := by omega
       have q2 : q < p := by omega
       have e1 : (m == 1) = false := by rw [beq_eq_false_iff_ne]; omega
       have e2 : (m == 2) = true := by rw [beq_iff_eq]; omega
       have e3 : (m == 3) = false := by rw [beq_eq_false_iff_ne]; omega
       have HS : Kp (setS x L k = hiS k (os)) := Kp.mk (by unfold setS; rw [← HE.out, loS_non (by rw [HM.out]; omega)])
       have KH : Kp (k % 8 = 2 ∨ k % 8 = 3) := Kp.mk (by rw [HM.out]; omega)
       clear c0 c1 c2 HVw HE hz hop hq ho h1
       have c0 := (HV.out.step HR.out.below).cell 0 _ rfl
       have c1 := (HV.out.step HR.out.below).cell 1 _ rfl
       have c2 := (HV.out.step HR.out.below).cell 2 _ rfl
       obtain ⟨r0, hr0⟩ : ∃ r, (os)[0]? = some r := ⟨(os)[0]'(by have := HOP.out; have := HQ.out; omega), List.getElem?_eq_getElem _⟩
       obtain ⟨r1, hr1⟩ : ∃ r, (os)[q]? = some r := ⟨(os)[q]'(by have := HOP.out; have := HQ.out; omega), List.getElem?_eq_getElem _⟩
       have f0 := HR.out.frozen 0
       have f1 := HR.out.frozen 1
       have f2 := HR.out.frozen (q * 4 + 2)
       have f3 := HR.out.frozen (q * 4 + 3)
       have k0 : wr.cell? ⟨g, 0, none⟩ = some (.int .i8 r0.f) := HR.out.cellAt (p := 0) (j := 0) hr0 (by omega)
       have k1 : wr.cell? ⟨g, 1, none⟩ = some (.int .i64 r0.d) := HR.out.cellAt (p := 0) (j := 1) hr0 (by omega)
       have k2 : wr.cell? ⟨g, q * 4 + 2, none⟩ = some (.int .i8 r1.g) := HR.out.cellAt hr1 (by omega)
       have k3 : wr.cell? ⟨g, q * 4 + 3, none⟩ = some (.int .i64 r1.e) := HR.out.cellAt hr1 (by omega)
       clear hr0 hr1
       go_upto_region 13 with fail
       clear c0 c1 c2 f0 f1 f2 f3 k0 k1 k2 k3
       have HR := Kp.mk (HR.out.hi (q := q) (by rw [HOP.out, HQ.out]) KH.out)
       generalize (wr.setCell ⟨g, q * 4 + 2, none⟩ (.int .i8 1)).setCell ⟨g, q * 4 + 3, none⟩ (.int .i64 0) = w3 at *
       go_wp2_with fail
       go_ret
       rw [HS.out]
       exact HR.out.ls HU.out.below (by rw [hiS_len, HOP.out]) (by rw [hiS_len]; exact HCP.out)
      ·by_cases m3 : m = 3
       ·obtain ⟨g, cp, hv, hcp0, hrw⟩ := HG.out.rw' hz
        have HCP := Kp.mk hcp0
        clear hcp0
        rw [hop] at hv
        subst hv
        have HR := Kp.mk hrw
        have HOP := Kp.mk hop
        clear hrw HG
        obtain ⟨q, hq⟩ : ∃ q, p = q + 1 := ⟨p - 1, by have : os.length ≠ 0 := fun e => hz (List.length_eq_zero_iff.1 e); omega⟩
        have HQ := Kp.mk hq
        have t0 : decide (0 < p) = true := decide_eq_true (by omega)
        have t1 : decide ((0 : Int) < (p : Int)) = true := decide_eq_true (by omega)
        have t2 : 0 < p := by omega
        have w8 : IntKind.i64.wrap ((p : Int) - 1) = (q : Int) := by rw [show (p : Int) - 1 = (q : Int) by omega]; exact IntWalk.i64_in _ (by omega)
        have q1 : (q : Int) < (p : Int) := by omega
        have q2 : q < p := by omega
        have e1 : (m == 1) = false := by rw [beq_eq_false_iff_ne]; omega
        have e2 : (m == 2) = false := by rw [beq_eq_false_iff_ne]; omega
        have e3 : (m == 3) = true := by rw [beq_iff_eq]; omega
        have HS : Kp (setS x L k = hiS k (loS k os)) := Kp.mk (by unfold setS; rw [← HE.out])
        have KL : Kp (k % 8 = 1 ∨ k % 8 = 3) := Kp.mk (by rw [HM.out]; omega)
        have KH : Kp (k % 8 = 2 ∨ k % 8 = 3) := Kp.mk (by rw [HM.out]; omega)
        clear c0 c1 c2 HVw HE hz hop hq ho h1
        have c0 := (HV.out.step HR.out.below).cell 0 _ rfl
        have c1 := (HV.out.step HR.out.below).cell 1 _ rfl
        have c2 := (HV.out.step HR.out.below).cell 2 _ rfl
        obtain ⟨r0, hr0⟩ : ∃ r, (os)[0]? = some r := ⟨(os)[0]'(by have := HOP.out; have := HQ.out; omega), List.getElem?_eq_getElem _⟩
        obtain ⟨r1, hr1⟩ : ∃ r, (os)[q]? = some r := ⟨(os)[q]'(by have := HOP.out; have := HQ.out; omega), List.getElem?_eq_getElem _⟩
        have f0 := HR.out.frozen 0
        have f1 := HR.out.frozen 1
        have f2 := HR.out.frozen (q * 4 + 2)
        have f3 := HR.out.frozen (q * 4 + 3)
        have k0 : wr.cell? ⟨g, 0, none⟩ = some (.int .i8 r0.f) := HR.out.cellAt (p := 0) (j := 0) hr0 (by omega)
        have k1 : wr.cell? ⟨g, 1, none⟩ = some (.int .i64 r0.d) := HR.out.cellAt (p := 0) (j := 1) hr0 (by omega)
        have k2 : wr.cell? ⟨g, q * 4 + 2, none⟩ = some (.int .i8 r1.g) := HR.out.cellAt hr1 (by omega)
        have k3 : wr.cell? ⟨g, q * 4 + 3, none⟩ = some (.int .i64 r1.e) := HR.out.cellAt hr1 (by omega)
        clear hr0 hr1
        go_upto_region 11 with fail
        clear c0 c1 c2 f0 f1 f2 f3 k0 k1 k2 k3
        have HR := Kp.mk (HR.out.lo (by rw [HOP.out, HQ.out]; omega) KL.out)
        generalize (wr.setCell ⟨g, 0, none⟩ (.int .i8 (-1))).setCell ⟨g, 1, none⟩ (.int .i64 0) = w2 at *
        have c0 := (HV.out.step HR.out.below).cell 0 _ rfl
        have c1 := (HV.out.step HR.out.below).cell 1 _ rfl
        have c2 := (HV.out.step HR.out.below).cell 2 _ rfl
        obtain ⟨r0, hr0⟩ : ∃ r, (loS k os)[0]? = some r := ⟨(loS k os)[0]'(by rw [loS_len]; have := HOP.out; have := HQ.out; omega), List.getElem?_eq_getElem _⟩
        obtain ⟨r1, hr1⟩ : ∃ r, (loS k os)[q]? = some r := ⟨(loS k os)[q]'(by rw [loS_len]; have := HOP.out; have := HQ.out; omega), List.getElem?_eq_getElem _⟩
        have f0 := HR.out.frozen 0
        have f1 := HR.out.frozen 1
        have f2 := HR.out.frozen (q * 4 + 2)
        have f3 := HR.out.frozen (q * 4 + 3)
        have k0 : w2.cell? ⟨g, 0, none⟩ = some (.int .i8 r0.f) := HR.out.cellAt (p := 0) (j := 0) hr0 (by omega)
        have k1 : w2.cell? ⟨g, 1, none⟩ = some (.int .i64 r0.d) := HR.out.cellAt (p := 0) (j := 1) hr0 (by omega)
        have k2 : w2.cell? ⟨g, q * 4 + 2, none⟩ = some (.int .i8 r1.g) := HR.out.cellAt hr1 (by omega)
        have k3 : w2.cell? ⟨g, q * 4 + 3, none⟩ = some (.int .i64 r1.e) := HR.out.cellAt hr1 (by omega)
        clear hr0 hr1
        go_upto_region 13 with fail
        clear c0 c1 c2 f0 f1 f2 f3 k0 k1 k2 k3
        have HR := Kp.mk (HR.out.hi (q := q) (by rw [loS_len, HOP.out, HQ.out]) KH.out)
        generalize (w2.setCell ⟨g, q * 4 + 2, none⟩ (.int .i8 1)).setCell ⟨g, q * 4 + 3, none⟩ (.int .i64 0) = w3 at *
        go_wp2_with fail
        go_ret
        rw [HS.out]
        exact HR.out.ls HU.out.below (by rw [hiS_len, loS_len, HOP.out]) (by rw [hiS_len, loS_len]; exact HCP.out)
       ·obtain ⟨g, cp, hv, hcp0, hrw⟩ := HG.out.rw' hz
        have HCP := Kp.mk hcp0
        clear hcp0
        rw [hop] at hv
        subst hv
        have HR := Kp.mk hrw
        have HOP := Kp.mk hop
        clear hrw HG
        obtain ⟨q, hq⟩ : ∃ q, p = q + 1 := ⟨p - 1, by have : os.length ≠ 0 := fun e => hz (List.length_eq_zero_iff.1 e); omega⟩
        have HQ := Kp.mk hq
        have t0 : decide (0 < p) = true := decide_eq_true (by omega)
        have t1 : decide ((0 : Int) < (p : Int)) = true := decide_eq_true (by omega)
        have t2 : 0 < p := by omega
        have w8 : IntKind.i64.wrap ((p : Int) - 1) = (q : Int) := by rw [show (p : Int) - 1 = (q : Int) by omega]; exact IntWalk.i64_in _ (by omega)
        have q1 : (q : Int) < (p : Int) := by omega
        have q2 : q < p := by omega
        have e1 : (m == 1) = false := by rw [beq_eq_false_iff_ne]; omega
        have e2 : (m == 2) = false := by rw [beq_eq_false_iff_ne]; omega
        have e3 : (m == 3) = false := by rw [beq_eq_false_iff_ne]; omega
        have HS : Kp (setS x L k = os) := Kp.mk (by unfold setS; rw [← HE.out, hiS_non (by rw [HM.out]; omega), loS_non (by rw [HM.out]; omega)])
        clear c0 c1 c2 HVw HE hz hop hq ho h1
        have c0 := (HV.out.step HR.out.below).cell 0 _ rfl
        have c1 := (HV.out.step HR.out.below).cell 1 _ rfl
        have c2 := (HV.out.step HR.out.below).cell 2 _ rfl
        obtain ⟨r0, hr0⟩ : ∃ r, (os)[0]? = some r := ⟨(os)[0]'(by have := HOP.out; have := HQ.out; omega), List.getElem?_eq_getElem _⟩
        obtain ⟨r1, hr1⟩ : ∃ r, (os)[q]? = some r := ⟨(os)[q]'(by have := HOP.out; have := HQ.out; omega), List.getElem?_eq_getElem _⟩
        have f0 := HR.out.frozen 0
        have f1 := HR.out.frozen 1
        have f2 := HR.out.frozen (q * 4 + 2)
        have f3 := HR.out.frozen (q * 4 + 3)
        have k0 : wr.cell? ⟨g, 0, none⟩ = some (.int .i8 r0.f) := HR.out.cellAt (p := 0) (j := 0) hr0 (by omega)
        have k1 : wr.cell? ⟨g, 1, none⟩ = some (.int .i64 r0.d) := HR.out.cellAt (p := 0) (j := 1) hr0 (by omega)
        have k2 : wr.cell? ⟨g, q * 4 + 2, none⟩ = some (.int .i8 r1.g) := HR.out.cellAt hr1 (by omega)
        have k3 : wr.cell? ⟨g, q * 4 + 3, none⟩ = some (.int .i64 r1.e) := HR.out.cellAt hr1 (by omega)
        clear hr0 hr1
        go_wp2_with fail
        go_ret
        rw [HS.out]
        exact HR.out.ls HU.out.below (by rw [HOP.out]) HCP.out
   ·have d1 : decide ((p : Int) < (n : Int)) = false := decide_eq_false (by omega)
    have d2 : ¬ (p : Int) < (n : Int) := by omega
    by_cases hz : os = []
    ·have HS : Kp (setS x L k = os) := Kp.mk (by unfold setS; rw [← HE.out, hz]; rfl)
     have p0 : p = 0 := by rw [← hop, hz]; rfl
     have t0 : decide (0 < p) = false := decide_eq_false (by omega)
     have t1 : decide ((0 : Int) < (p : Int)) = false := decide_eq_false (by omega)
     have t2 : ¬ 0 < p := by omega
     obtain ⟨b, cp, hv, _, _⟩ := HG.out.row HU.out.below
     rw [hop] at hv
     subst hv
     clear HE hz hop p0 h1
     go_wp2_with fail
     go_ret
     rw [HS.out]
     exact ls_ofq HG.out HU.out.below
    ·by_cases m1 : m = 1
     ·obtain ⟨g, cp, hv, hcp0, hrw⟩ := HG.out.rw' hz
      have HCP := Kp.mk hcp0
      clear hcp0
      rw [hop] at hv
      subst hv
      have HR := Kp.mk hrw
      have HOP := Kp.mk hop
      clear hrw HG
      obtain ⟨q, hq⟩ : ∃ q, p = q + 1 := ⟨p - 1, by have : os.length ≠ 0 := fun e => hz (List.length_eq_zero_iff.1 e); omega⟩
      have HQ := Kp.mk hq
      have t0 : decide (0 < p) = true := decide_eq_true (by omega)
      have t1 : decide ((0 : Int) < (p : Int)) = true := decide_eq_true (by omega)
      have t2 : 0 < p := by omega
      have w8 : IntKind.i64.wrap ((p : Int) - 1) = (q : Int) := by rw [show (p : Int) - 1 = (q : Int) by omega]; exact IntWalk.i64_in _ (by omega)
      have q1 : (q : Int) < (p : Int) := by omega
      have q2 : q < p := by omega
      have e1 : (m == 1) = true := by rw [beq_iff_eq]; omega
      have e2 : (m == 2) = false := by rw [beq_eq_false_iff_ne]; omega
      have e3 : (m == 3) = false := by rw [beq_eq_false_iff_ne]; omega
      have HS : Kp (setS x L k = loS k os) := Kp.mk (by unfold setS; rw [← HE.out, hiS_non (by rw [HM.out]; omega)])
      have KL : Kp (k % 8 = 1 ∨ k % 8 = 3) := Kp.mk (by rw [HM.out]; omega)
      clear c0 c1 c2 HVw HE hz hop hq ho h1
      have c0 := (HV.out.step HR.out.below).cell 0 _ rfl
      have c1 := (HV.out.step HR.out.below).cell 1 _ rfl
      have c2 := (HV.out.step HR.out.below).cell 2 _ rfl
      obtain ⟨r0, hr0⟩ : ∃ r, (os)[0]? = some r := ⟨(os)[0]'(by have := HOP.out; have := HQ.out; omega), List.getElem?_eq_getElem _⟩
      obtain ⟨r1, hr1⟩ : ∃ r, (os)[q]? = some r := ⟨(os)[q]'(by have := HOP.out; have := HQ.out; omega), List.getElem?_eq_getElem _⟩
      have f0 := HR.out.frozen 0
      have f1 := HR.out.frozen 1
      have f2 := HR.out.frozen (q * 4 + 2)
      have f3 := HR.out.frozen (q * 4 + 3)
      have k0 : wr.cell? ⟨g, 0, none⟩ = some (.int .i8 r0.f) := HR.out.cellAt (p := 0) (j := 0) hr0 (by omega)
      have k1 : wr.cell? ⟨g, 1, none⟩ = some (.int .i64 r0.d) := HR.out.cellAt (p := 0) (j := 1) hr0 (by omega)
      have k2 : wr.cell? ⟨g, q * 4 + 2, none⟩ = some (.int .i8 r1.g) := HR.out.cellAt hr1 (by omega)
      have k3 : wr.cell? ⟨g, q * 4 + 3, none⟩ = some (.int .i64 r1.e) := HR.out.cellAt hr1 (by omega)
      clear hr0 hr1
      go_upto_region 11 with fail
      clear c0 c1 c2 f0 f1 f2 f3 k0 k1 k2 k3
      have HR := Kp.mk (HR.out.lo (by rw [HOP.out, HQ.out]; omega) KL.out)
      generalize (wr.setCell ⟨g, 0, none⟩ (.int .i8 (-1))).setCell ⟨g, 1, none⟩ (.int .i64 0) = w2 at *
      have c0 := (HV.out.step HR.out.below).cell 0 _ rfl
      have c1 := (HV.out.step HR.out.below).cell 1 _ rfl
      have c2 := (HV.out.step HR.out.below).cell 2 _ rfl
      obtain ⟨r0, hr0⟩ : ∃ r, (loS k os)[0]? = some r := ⟨(loS k os)[0]'(by rw [loS_len]; have := HOP.out; have := HQ.out; omega), List.getElem?_eq_getElem _⟩
      obtain ⟨r1, hr1⟩ : ∃ r, (loS k os)[q]? = some r := ⟨(loS k os)[q]'(by rw [loS_len]; have := HOP.out; have := HQ.out; omega), List.getElem?_eq_getElem _⟩
      have f0 := HR.out.frozen 0
      have f1 := HR.out.frozen 1
      have f2 := HR.out.frozen (q * 4 + 2)
      have f3 := HR.out.frozen (q * 4 + 3)
      have k0 : w2.cell? ⟨g, 0, none⟩ = some (.int .i8 r0.f) := HR.out.cellAt (p := 0) (j := 0) hr0 (by omega)
      have k1 : w2.cell? ⟨g, 1, none⟩ = some (.int .i64 r0.d) := HR.out.cellAt (p := 0) (j := 1) hr0 (by omega)
      have k2 : w2.cell? ⟨g, q * 4 + 2, none⟩ = some (.int .i8 r1.g) := HR.out.cellAt hr1 (by omega)
      have k3 : w2.cell? ⟨g, q * 4 + 3, none⟩ = some (.int .i64 r1.e) := HR.out.cellAt hr1 (by omega)
      clear hr0 hr1
      go_wp2_with fail
      go_ret
      rw [HS.out]
      exact HR.out.ls HU.out.below (by rw [loS_len, HOP.out]) (by rw [loS_len]; exact HCP.out)
     ·by_cases m2 : m = 2
      ·obtain ⟨g, cp, hv, hcp0, hrw⟩ := HG.out.rw' hz
       have HCP := Kp.mk hcp0
       clear hcp0
       rw [hop] at hv
       subst hv
       have HR := Kp.mk hrw
       have HOP := Kp.mk hop
       clear hrw HG
       obtain ⟨q, hq⟩ : ∃ q, p = q + 1 := ⟨p - 1, by have : os.length ≠ 0 := fun e => hz (List.length_eq_zero_iff.1 e); omega⟩
       have HQ := Kp.mk hq
       have t0 : decide (0 < p) = true := decide_eq_true (by omega)
       have t1 : decide ((0 : Int) < (p : Int)) = true := decide_eq_true (by omega)
       have t2 : 0 < p := by omega
       have w8 : IntKind.i64.wrap ((p : Int) - 1) = (q : Int) := by rw [show (p : Int) - 1 = (q : Int) by omega]; exact IntWalk.i64_in _ (by omega)
       have q1 : (q : Int) < (p : Int) := by omega
       have q2 : q < p := by omega
       have e1 : (m == 1) = false := by rw [beq_eq_false_iff_ne]; omega
       have e2 : (m == 2) = true := by rw [beq_iff_eq]; omega
       have e3 : (m == 3) = false := by rw [beq_eq_false_iff_ne]; omega
       have HS : Kp (setS x L k = hiS k (os)) := Kp.mk (by unfold setS; rw [← HE.out, loS_non (by rw [HM.out]; omega)])
       have KH : Kp (k % 8 = 2 ∨ k % 8 = 3) := Kp.mk (by rw [HM.out]; omega)
       clear c0 c1 c2 HVw HE hz hop hq ho h1
       have c0 := (HV.out.step HR.out.below).cell 0 _ rfl
       have c1 := (HV.out.step HR.out.below).cell 1 _ rfl
       have c2 := (HV.out.step HR.out.below).cell 2 _ rfl
       obtain ⟨r0, hr0⟩ : ∃ r, (os)[0]? = some r := ⟨(os)[0]'(by have := HOP.out; have := HQ.out; omega), List.getElem?_eq_getElem _⟩
       obtain ⟨r1, hr1⟩ : ∃ r, (os)[q]? = some r := ⟨(os)[q]'(by have := HOP.out; have := HQ.out; omega), List.getElem?_eq_getElem _⟩
       have f0 := HR.out.frozen 0
       have f1 := HR.out.frozen 1
       have f2 := HR.out.frozen (q * 4 + 2)
       have f3 := HR.out.frozen (q * 4 + 3)
       have k0 : wr.cell? ⟨g, 0, none⟩ = some (.int .i8 r0.f) := HR.out.cellAt (p := 0) (j := 0) hr0 (by omega)
       have k1 : wr.cell? ⟨g, 1, none⟩ = some (.int .i64 r0.d) := HR.out.cellAt (p := 0) (j := 1) hr0 (by omega)
       have k2 : wr.cell? ⟨g, q * 4 + 2, none⟩ = some (.int .i8 r1.g) := HR.out.cellAt hr1 (by omega)
       have k3 : wr.cell? ⟨g, q * 4 + 3, none⟩ = some (.int .i64 r1.e) := HR.out.cellAt hr1 (by omega)
       clear hr0 hr1
       go_upto_region 13 with fail
       clear c0 c1 c2 f0 f1 f2 f3 k0 k1 k2 k3
       have HR := Kp.mk (HR.out.hi (q := q) (by rw [HOP.out, HQ.out]) KH.out)
       generalize (wr.setCell ⟨g, q * 4 + 2, none⟩ (.int .i8 1)).setCell ⟨g, q * 4 + 3, none⟩ (.int .i64 0) = w3 at *
       go_wp2_with fail
       go_ret
       rw [HS.out]
       exact HR.out.ls HU.out.below (by rw [hiS_len, HOP.out]) (by rw [hiS_len]; exact HCP.out)
      ·by_cases m3 : m = 3
       ·obtain ⟨g, cp, hv, hcp0, hrw⟩ := HG.out.rw' hz
        have HCP := Kp.mk hcp0
        clear hcp0
        rw [hop] at hv
        subst hv
        have HR := Kp.mk hrw
        have HOP := Kp.mk hop
        clear hrw HG
        obtain ⟨q, hq⟩ : ∃ q, p = q + 1 := ⟨p - 1, by have : os.length ≠ 0 := fun e => hz (List.length_eq_zero_iff.1 e); omega⟩
        have HQ := Kp.mk hq
        have t0 : decide (0 < p) = true := decide_eq_true (by omega)
        have t1 : decide ((0 : Int) < (p : Int)) = true := decide_eq_true (by omega)
        have t2 : 0 < p := by omega
        have w8 : IntKind.i64.wrap ((p : Int) - 1) = (q : Int) := by rw [show (p : Int) - 1 = (q : Int) by omega]; exact IntWalk.i64_in _ (by omega)
        have q1 : (q : Int) < (p : Int) := by omega
        have q2 : q < p := by omega
        have e1 : (m == 1) = false := by rw [beq_eq_false_iff_ne]; omega
        have e2 : (m == 2) = false := by rw [beq_eq_false_iff_ne]; omega
        have e3 : (m == 3) = true := by rw [beq_iff_eq]; omega
        have HS : Kp (setS x L k = hiS k (loS k os)) := Kp.mk (by unfold setS; rw [← HE.out])
        have KL : Kp (k % 8 = 1 ∨ k % 8 = 3) := Kp.mk (by rw [HM.out]; omega)
        have KH : Kp (k % 8 = 2 ∨ k % 8 = 3) := Kp.mk (by rw [HM.out]; omega)
        clear c0 c1 c2 HVw HE hz hop hq ho h1
        have c0 := (HV.out.step HR.out.below).cell 0 _ rfl
        have c1 := (HV.out.step HR.out.below).cell 1 _ rfl
        have c2 := (HV.out.step HR.out.below).cell 2 _ rfl
        obtain ⟨r0, hr0⟩ : ∃ r, (os)[0]? = some r := ⟨(os)[0]'(by have := HOP.out; have := HQ.out; omega), List.getElem?_eq_getElem _⟩
        obtain ⟨r1, hr1⟩ : ∃ r, (os)[q]? = some r := ⟨(os)[q]'(by have := HOP.out; have := HQ.out; omega), List.getElem?_eq_getElem _⟩
        have f0 := HR.out.frozen 0
        have f1 := HR.out.frozen 1
        have f2 := HR.out.frozen (q * 4 + 2)
        have f3 := HR.out.frozen (q * 4 + 3)
        have k0 : wr.cell? ⟨g, 0, none⟩ = some (.int .i8 r0.f) := HR.out.cellAt (p := 0) (j := 0) hr0 (by omega)
        have k1 : wr.cell? ⟨g, 1, none⟩ = some (.int .i64 r0.d) := HR.out.cellAt (p := 0) (j := 1) hr0 (by omega)
        have k2 : wr.cell? ⟨g, q * 4 + 2, none⟩ = some (.int .i8 r1.g) := HR.out.cellAt hr1 (by omega)
        have k3 : wr.cell? ⟨g, q * 4 + 3, none⟩ = some (.int .i64 r1.e) := HR.out.cellAt hr1 (by omega)
        clear hr0 hr1
        go_upto_region 11 with fail
        clear c0 c1 c2 f0 f1 f2 f3 k0 k1 k2 k3
        have HR := Kp.mk (HR.out.lo (by rw [HOP.out, HQ.out]; omega) KL.out)
        generalize (wr.setCell ⟨g, 0, none⟩ (.int .i8 (-1))).setCell ⟨g, 1, none⟩ (.int .i64 0) = w2 at *
        have c0 := (HV.out.step HR.out.below).cell 0 _ rfl
        have c1 := (HV.out.step HR.out.below).cell 1 _ rfl
        have c2 := (HV.out.step HR.out.below).cell 2 _ rfl
        obtain ⟨r0, hr0⟩ : ∃ r, (loS k os)[0]? = some r := ⟨(loS k os)[0]'(by rw [loS_len]; have := HOP.out; have := HQ.out; omega), List.getElem?_eq_getElem _⟩
        obtain ⟨r1, hr1⟩ : ∃ r, (loS k os)[q]? = some r := ⟨(loS k os)[q]'(by rw [loS_len]; have := HOP.out; have := HQ.out; omega), List.getElem?_eq_getElem _⟩
        have f0 := HR.out.frozen 0
        have f1 := HR.out.frozen 1
        have f2 := HR.out.frozen (q * 4 + 2)
        have f3 := HR.out.frozen (q * 4 + 3)
        have k0 : w2.cell? ⟨g, 0, none⟩ = some (.int .i8 r0.f) := HR.out.cellAt (p := 0) (j := 0) hr0 (by omega)
        have k1 : w2.cell? ⟨g, 1, none⟩ = some (.int .i64 r0.d) := HR.out.cellAt (p := 0) (j := 1) hr0 (by omega)
        have k2 : w2.cell? ⟨g, q * 4 + 2, none⟩ = some (.int .i8 r1.g) := HR.out.cellAt hr1 (by omega)
        have k3 : w2.cell? ⟨g, q * 4 + 3, none⟩ = some (.int .i64 r1.e) := HR.out.cellAt hr1 (by omega)
        clear hr0 hr1
        go_upto_region 13 with fail
        clear c0 c1 c2 f0 f1 f2 f3 k0 k1 k2 k3
        have HR := Kp.mk (HR.out.hi (q := q) (by rw [loS_len, HOP.out, HQ.out]) KH.out)
        generalize (w2.setCell ⟨g, q * 4 + 2, none⟩ (.int .i8 1)).setCell ⟨g, q * 4 + 3, none⟩ (.int .i64 0) = w3 at *
        go_wp2_with fail
        go_ret
        rw [HS.out]
        exact HR.out.ls HU.out.below (by rw [hiS_len, loS_len, HOP.out]) (by rw [hiS_len, loS_len]; exact HCP.out)
       ·obtain ⟨g, cp, hv, hcp0, hrw⟩ := HG.out.rw' hz
        have HCP := Kp.mk hcp0
        clear hcp0
        rw [hop] at hv
        subst hv
        have HR := Kp.mk hrw
        have HOP := Kp.mk hop
        clear hrw HG
        obtain ⟨q, hq⟩ : ∃ q, p = q + 1 := ⟨p - 1, by have : os.length ≠ 0 := fun e => hz (List.length_eq_zero_iff.1 e); omega⟩
        have HQ := Kp.mk hq
        have t0 : decide (0 < p) = true := decide_eq_true (by omega)
        have t1 : decide ((0 : Int) < (p : Int)) = true := decide_eq_true (by omega)
        have t2 : 0 < p := by omega
        have w8 : IntKind.i64.wrap ((p : Int) - 1) = (q : Int) := by rw [show (p : Int) - 1 = (q : Int) by omega]; exact IntWalk.i64_in _ (by omega)
        have q1 : (q : Int) < (p : Int) := by omega
        have q2 : q < p := by omega
        have e1 : (m == 1) = false := by rw [beq_eq_false_iff_ne]; omega
        have e2 : (m == 2) = false := by rw [beq_eq_false_iff_ne]; omega
        have e3 : (m == 3) = false := by rw [beq_eq_false_iff_ne]; omega
        have HS : Kp (setS x L k = os) := Kp.mk (by unfold setS; rw [← HE.out, hiS_non (by rw [HM.out]; omega), loS_non (by rw [HM.out]; omega)])
        clear c0 c1 c2 HVw HE hz hop hq ho h1
        have c0 := (HV.out.step HR.out.below).cell 0 _ rfl
        have c1 := (HV.out.step HR.out.below).cell 1 _ rfl
        have c2 := (HV.out.step HR.out.below).cell 2 _ rfl
        obtain ⟨r0, hr0⟩ : ∃ r, (os)[0]? = some r := ⟨(os)[0]'(by have := HOP.out; have := HQ.out; omega), List.getElem?_eq_getElem _⟩
        obtain ⟨r1, hr1⟩ : ∃ r, (os)[q]? = some r := ⟨(os)[q]'(by have := HOP.out; have := HQ.out; omega), List.getElem?_eq_getElem _⟩
        have f0 := HR.out.frozen 0
        have f1 := HR.out.frozen 1
        have f2 := HR.out.frozen (q * 4 + 2)
        have f3 := HR.out.frozen (q * 4 + 3)
        have k0 : wr.cell? ⟨g, 0, none⟩ = some (.int .i8 r0.f) := HR.out.cellAt (p := 0) (j := 0) hr0 (by omega)
        have k1 : wr.cell? ⟨g, 1, none⟩ = some (.int .i64 r0.d) := HR.out.cellAt (p := 0) (j := 1) hr0 (by omega)
        have k2 : wr.cell? ⟨g, q * 4 + 2, none⟩ = some (.int .i8 r1.g) := HR.out.cellAt hr1 (by omega)
        have k3 : wr.cell? ⟨g, q * 4 + 3, none⟩ = some (.int .i64 r1.e) := HR.out.cellAt hr1 (by omega)
        clear hr0 hr1
        go_wp2_with fail
        go_ret
        rw [HS.out]
        exact HR.out.ls HU.out.below (by rw [HOP.out]) HCP.out
end Go.Proofs.YtndjcmclmhoigaaGreatDoor
namespace Go.Proofs.YtndjcmclmhoigaaGreatDoor
open Go.RowKit
set_option maxRecDepth 100000

/-- whether one of the days from -60 on is -/
def outD (p : Int → Bool) : Nat → Bool
 | 0 => false
 | k + 1 => outD p k || p (-60 + (k : Int))
theorem outD_false {p : Int → Bool} : ∀ {k : Nat}, outD p k = false ↔ ∀ j : Nat, j < k → p (-60 + (j : Int)) = false
 | 0 => ⟨fun _ j hj => absurd hj (by omega), fun _ => rfl⟩
 | k + 1 => by
  unfold outD
  rw [Bool.or_eq_false_iff, outD_false (k := k)]
  constructor
  ·rintro ⟨h1, h2⟩ j hj
   by_cases e : j = k
   ·rw [e]; exact h2
   ·exact h1 j (by omega)
  ·exact fun h => ⟨fun j hj => h j (by omega), h k (by omega)⟩
variable {l m : List Rn}
theorem in_out (hl : Rs l) (hm : Rs m) : inRs l m = !outD (fun x => hasRs l x && !hasRs m x) 321 := by
 rw [Bool.eq_iff_iff, in_sub hl.inl hm.inl hl.can hm.can, sub_days hl hm, Bool.not_eq_true', outD_false]
 constructor
 ·intro h j hj
  by_cases h1 : hasRs l (-60 + (j : Int)) = true
  ·have h2 := (has_can hm.inl hm.can).2 (h _ (by omega) (by omega) ((has_can hl.inl hl.can).1 h1))
   show (hasRs l (-60 + (j : Int)) && !hasRs m (-60 + (j : Int))) = false
   rw [h2, Bool.not_true, Bool.and_false]
  ·show (hasRs l (-60 + (j : Int)) && !hasRs m (-60 + (j : Int))) = false
   rw [Bool.not_eq_true] at h1
   rw [h1, Bool.false_and]
 ·intro h x h0 h1 hx
  have h2 := h (x + 60).toNat (by omega)
  rw [show -60 + (((x + 60).toNat : Nat) : Int) = x by omega] at h2
  have h3 := (has_can hl.inl hl.can).2 hx
  rw [h3, Bool.true_and, Bool.not_eq_false'] at h2
  exact (has_can hm.inl hm.can).1 h2
/-- no end is infinite just if the first and the last are not -/
theorem fin_ends {r s : Rn} {k : Nat} (h : RsCan l) (hk : l.length = k + 1) (hr : l[0]? = some r) (hs : l[k]? = some s) : FinR l ↔ r.f = 0 ∧ s.g = 0 := by
 constructor
 ·exact fun hf => ⟨(hf r (List.mem_of_getElem? hr)).1, (hf s (List.mem_of_getElem? hs)).2⟩
 ·rintro ⟨h1, h2⟩ q hq
  have hqo := h.ok q hq
  constructor
  ·rcases hqo.lof with e | ⟨e, _⟩
   ·exact e
   ·have ql : q.lo = -18446744073709551616 := by unfold Rn.lo posE; rw [e]; rfl
    match l, h, hr, hq with
    | y :: t, h, hr, hq =>
     have hy : y = r := by simpa using hr
     subst hy
     rcases List.mem_cons.1 hq with rfl | hq
     ·exact h1
     ·have := (rsc_cons.1 h).2.1 q hq
      have := (h.ok y (by simp)).pos
      have p1 := this.ph
      have := (h.ok y (by simp)).e0
      omega
  ·rcases hqo.hif with e | ⟨e, _⟩
   ·exact e
   ·have qh : q.hi = 18446744073709551616 := by unfold Rn.hi posE; rw [e]; rfl
    obtain ⟨t, y, rfl⟩ : ∃ t y, l = t ++ [y] := by
     rcases List.eq_nil_or_concat l with rfl | ⟨t, y, e⟩
     ·cases hk
     ·exact ⟨t, y, by rw [e, List.concat_eq_append]⟩
    have ht : t.length = k := by rw [List.length_append] at hk; simp at hk; exact hk
    subst ht
    have hy : y = s := by simpa using hs
    subst hy
    rcases List.mem_append.1 hq with hq | hq
    ·have h3 := (List.pairwise_append.1 h.gap).2.2 q hq y (by simp)
     have := (h.ok y (by simp)).pos
     have p1 := this.pl
     have := (h.ok y (by simp)).d1
     omega
    ·rw [List.mem_singleton.1 hq]; exact h2
end Go.Proofs.YtndjcmclmhoigaaGreatDoor
