/-
 DERIVED. What the examples of chapter 9 come to. Written by mkrn5.py.
-/
import Derived.Test.YteddfolhpoikcaaGreatDoorPR1a
namespace Go.Proofs.YteddfolhpoikcaaGreatDoor

theorem in_of {f d g e : Int} (h : -9223372036854775808 ≤ d ∧ d ≤ 9223372036854775807 ∧ -9223372036854775808 ≤ e ∧ e ≤ 9223372036854775807) : Rn.In ⟨f, d, g, e⟩ := ⟨h.1, h.2.1, h.2.2.1, h.2.2.2⟩
theorem cut_at {l : List UInt8} {j : Nat} (h : l[j]? = some 46 ∧ l[j + 1]? = some 46 ∧ (List.range j).all (fun i => !(l[i]? == some 46 && l[i + 1]? == some 46)) = true) : CutAt l j :=
 ⟨⟨h.1, h.2.1⟩, fun i hi hd => by
  have := List.all_eq_true.1 h.2.2 i (List.mem_range.2 hi)
  rw [hd.1, hd.2] at this
  revert this; decide⟩
theorem par_txt (d : Int) (d0 : -9223372036854775808 ≤ d) (d1 : d ≤ 9223372036854775807) {l : List UInt8} (h : textE 0 d = l) : ParE l 0 d 0 := by rw [← h]; exact text_again (chkE_zero.2 (.inl rfl)) d0 d1
theorem par_infE : ParE [105, 110, 102] 1 0 0 := text_again (f := 1) (d := 0) (by decide) (by decide) (by decide)
theorem dot_form : ¬ Form [46, 51] := fun h => form_point h (by decide)
theorem par_dot : ParE [46, 51] 0 0 5 := ⟨fun h => absurd h (by decide), fun h => absurd h (by decide), fun _ _ h => absurd h dot_form, fun _ _ h => absurd h dot_form, fun _ _ _ => ⟨rfl, rfl, rfl⟩⟩
theorem val_p1 : ParR [45, 105, 110, 102, 46, 46, 45, 51] ⟨-1, 0, 0, -3⟩ 0 := by
 have h := textR_again (r := ⟨-1, 0, 0, -3⟩) (in_of (by decide)) (by decide +kernel)
 rw [show textR ⟨-1, 0, 0, -3⟩ = [45, 105, 110, 102, 46, 46, 45, 51] by decide +kernel] at h
 exact h
theorem val_p2 : ParR [53, 46, 46, 51] zeroR 12 := .inr ⟨1, 0, 5, 0, 0, 3, 0, cut_at (by decide), par_txt 5 (by decide) (by decide) (by decide +kernel), par_txt 3 (by decide) (by decide) (by decide +kernel), .inr (.inr (.inl ⟨⟨rfl, rfl⟩, by decide +kernel, rfl, by decide +kernel⟩))⟩
theorem val_p3 : ParR [105, 110, 102, 46, 46, 105, 110, 102] zeroR 4 := .inr ⟨3, 1, 0, 0, 1, 0, 0, cut_at (by decide), par_infE, par_infE, .inr (.inr (.inl ⟨⟨rfl, rfl⟩, by decide +kernel, rfl, by decide +kernel⟩))⟩
theorem val_p4 : ParR [49, 46, 46, 46, 51] zeroR 5 := .inr ⟨1, 0, 1, 0, 0, 0, 5, cut_at (by decide), par_txt 1 (by decide) (by decide) (by decide +kernel), par_dot, .inl ⟨.inr rfl, rfl, rfl⟩⟩
theorem val_m1 : MoveR ⟨0, 3, 1, 0⟩ (-4) ⟨0, -1, 1, 0⟩ 0 := by
 have h1 : MoveE 0 3 (-4) 0 (-1) true := ⟨fun h => by revert h; decide, fun _ _ => by decide, fun _ h => by revert h; decide⟩
 have h2 : MoveE 1 0 (-4) 1 0 true := ⟨fun h => by revert h; decide, fun h _ => by revert h; decide, fun h _ => by revert h; decide⟩
 refine ⟨fun g e h i x y => ?_, fun g e h i p q x y t => ?_⟩
 ·obtain ⟨rfl, rfl, _⟩ := h1.det x
  obtain ⟨rfl, rfl, _⟩ := h2.det y
  exact ⟨rfl, rfl⟩
 ·obtain ⟨_, _, rfl⟩ := h1.det x
  obtain ⟨_, _, rfl⟩ := h2.det y
  cases t
theorem val_m2 : MoveR ⟨0, 0, 0, 9223372036854775807⟩ (1) zeroR 15 := by
 have h2 : MoveE 0 9223372036854775807 (1) 0 0 false := ⟨fun h => absurd rfl h, fun _ h => by revert h; decide, fun _ _ => ⟨rfl, rfl, rfl⟩⟩
 refine ⟨fun g e h i x y => ?_, fun g e h i p q x y t => ⟨rfl, rfl⟩⟩
 have := (h2.det y).2.2; cases this
end Go.Proofs.YteddfolhpoikcaaGreatDoor
