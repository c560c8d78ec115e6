/-
 DERIVED. TEXTS OF RUNS as lists of bytes, and back. No program.
 DERIVED. CONTRACTS of the reference of layer 9 (runs): Within, Text. Written by mkrnrefc.py.
 DERIVED. CONTRACTS of the reference of layer 10 (runsets): Within. Written by mkrsrefw.py.
-/
import Derived.Test.YtndjcmclmhoigaaGreatDoorPA1
import Derived.Test.YtndjcmclmhoigaaGreatDoorPA5
import Derived.Test.YtndjcmclmhoigaaGreatDoorPA3
import Derived.Deep.RegionHeld3
import Derived.Test.YtndjcmclmhoigaaGreatDoorPA6
namespace Go.Proofs.YtndjcmclmhoigaaGreatDoor

/-- the text of a run -/
def textR (r : Rn) : List UInt8 := textE r.f r.d ++ [46, 46] ++ textE r.g r.e
theorem textR_len {r : Rn} (hr : r.In) : (textR r).length ≤ 122 := by
 have := textE_len (f := r.f) hr.d0 hr.d1
 have := textE_len (f := r.g) hr.e0 hr.e1
 unfold textR
 simp only [List.length_append, List.length_cons, List.length_nil]
 omega
/-- two points at a place -/
def dd (l : List UInt8) (i : Nat) : Prop := l[i]? = some 46 ∧ l[i + 1]? = some 46
/-- the first two points -/
structure CutAt (l : List UInt8) (j : Nat) : Prop where
 two : dd l j
 first : ∀ i, i < j → ¬ dd l i
def NoCut (l : List UInt8) : Prop := ∀ i, ¬ dd l i
theorem CutAt.lt {l : List UInt8} {j : Nat} (h : CutAt l j) : j + 1 < l.length := (List.getElem?_eq_some_iff.1 h.two.2).1
/-- what is read: the run, the error -/
def ParR (l : List UInt8) (r : Rn) (c : Int) : Prop :=
 (NoCut l ∧ r = zeroR ∧ c = 5) ∨ ∃ j f d p g e q, CutAt l j ∧ ParE (l.take j) f d p ∧ ParE (l.drop (j + 2)) g e q ∧
  ((p = 5 ∨ q = 5) ∧ r = zeroR ∧ c = 5 ∨ ¬ (p = 5 ∨ q = 5) ∧ ¬ (p = 0 ∧ q = 0) ∧ r = zeroR ∧ c = 15 ∨
   (p = 0 ∧ q = 0) ∧ ¬ chkR ⟨f, d, g, e⟩ = 0 ∧ r = zeroR ∧ c = chkR ⟨f, d, g, e⟩ ∨ (p = 0 ∧ q = 0) ∧ chkR ⟨f, d, g, e⟩ = 0 ∧ r = ⟨f, d, g, e⟩ ∧ c = 0)
theorem ParR.zero {l : List UInt8} {r : Rn} {c : Int} (h : ParR l r c) (hc : ¬ c = 0) : r = zeroR := by
 rcases h with ⟨_, h, _⟩ | ⟨j, f, d, p, g, e, q, _, _, _, ⟨_, h, _⟩ | ⟨_, _, h, _⟩ | ⟨_, _, h, _⟩ | ⟨_, _, _, h⟩⟩
 ·exact h
 ·exact h
 ·exact h
 ·exact h
 ·exact absurd h hc
theorem ParE.range {l : List UInt8} {f d p : Int} (h : ParE l f d p) : -9223372036854775808 ≤ d ∧ d ≤ 9223372036854775807 := by
 by_cases h1 : l = infL
 ·have := h.inf h1; omega
 ·by_cases h2 : l = minfL
  ·have := h.minf h2; omega
  ·by_cases h3 : Form l
   ·by_cases h4 : -9223372036854775808 ≤ textVal l ∧ textVal l ≤ 9223372036854775807
    ·have := h.fits h1 h2 h3 h4; omega
    ·have := h.over h1 h2 h3 h4; omega
   ·have := h.no h1 h2 h3; omega
/-- no text of an end has a point -/
theorem form_point {l : List UInt8} (h : Form l) : (46 : UInt8) ∉ l := by
 rcases h with rfl | ⟨c, r, h | h, _, hd⟩
 ·decide
 ·rw [h]; intro hm; have := hd 46 hm; revert this; unfold dig; decide
 ·rw [h]
  intro hm
  rcases List.mem_cons.1 hm with e | hm
  ·revert e; decide
  ·have := hd 46 hm; revert this; unfold dig; decide
theorem textE_point (f d : Int) : (46 : UInt8) ∉ textE f d := by
 unfold textE
 split
 ·decide
 ·split
  ·decide
  ·exact form_point (R1.itoa_form d).1
/-- the text of a right run is read as the run -/
theorem textR_again {r : Rn} (hr : r.In) (h : chkR r = 0) : ParR (textR r) r 0 := by
 have ho := (chkR_zero hr).1 h
 have c1 : chkE r.f r.d = 0 := chkE_zero.2 (by have := ho.lof; omega)
 have c2 : chkE r.g r.e = 0 := chkE_zero.2 (by have := ho.hif; omega)
 have h1 := text_again c1 hr.d0 hr.d1
 have h2 := text_again c2 hr.e0 hr.e1
 have n1 := textE_point r.f r.d
 unfold textR
 generalize textE r.f r.d = a at *
 generalize textE r.g r.e = b at *
 right
 refine ⟨a.length, r.f, r.d, 0, r.g, r.e, 0, ⟨⟨?_, ?_⟩, ?_⟩, ?_, ?_, .inr (.inr (.inr ⟨⟨rfl, rfl⟩, h, rfl, rfl⟩))⟩
 ·rw [List.append_assoc, List.getElem?_append_right (Nat.le_refl _), Nat.sub_self]; rfl
 ·rw [List.append_assoc, List.getElem?_append_right (by omega), show a.length + 1 - a.length = 1 by omega]; rfl
 ·intro i hi hd
  have := hd.1
  rw [List.append_assoc, List.getElem?_append_left hi] at this
  exact n1 (List.mem_of_getElem? this)
 ·rw [List.append_assoc, List.take_append_of_le_length (Nat.le_refl _), List.take_length]; exact h1
 ·rw [show a.length + 2 = (a ++ [46, 46]).length by simp, List.drop_append_of_le_length (Nat.le_refl _), List.drop_length, List.nil_append]; exact h2
end Go.Proofs.YtndjcmclmhoigaaGreatDoor
namespace Go.Proofs.YtndjcmclmhoigaaGreatDoor
open Go.RowKit
set_option maxRecDepth 100000

end Go.Proofs.YtndjcmclmhoigaaGreatDoor
namespace Go.Proofs.YtndjcmclmhoigaaGreatDoor
open Go.RowKit
set_option maxRecDepth 100000

variable {w W W' : World} {a b : Option Addr} {l m : List Rn}
end Go.Proofs.YtndjcmclmhoigaaGreatDoor
