/-
  DERIVED. What the examples of chapter 8 come to. Written by mken4.py.
-/
import Derived.Test.YtbnlomjlapnoaaaDoorEnTxt
namespace Go.Proofs.YtbnlomjlapnoaaaDoor

theorem step_inf (up : Bool) : StepE up 1 0 1 0 0 := ⟨fun h => absurd (by decide) h, fun _ _ => ⟨rfl, rfl, rfl⟩, fun h _ => absurd h (by decide), fun h _ => absurd h (by decide)⟩
theorem step_5 : StepE true 0 5 0 6 0 := ⟨fun h => absurd (by decide) h, fun _ h => absurd rfl h, fun _ h => absurd h (by decide), fun _ _ => ⟨rfl, rfl, rfl⟩⟩
theorem step_max : StepE true 0 9223372036854775807 0 0 15 := ⟨fun h => absurd (by decide) h, fun _ h => absurd rfl h, fun _ _ => ⟨rfl, rfl, rfl⟩, fun _ h => absurd rfl h⟩
theorem step_min : StepE false 0 (-9223372036854775808) 0 0 15 := ⟨fun h => absurd (by decide) h, fun _ h => absurd rfl h, fun _ _ => ⟨rfl, rfl, rfl⟩, fun _ h => absurd (by decide) h⟩
theorem text_7 : textE 0 (-7) = [45, 55] := by decide +kernel
theorem text_low : textE (-1) 0 = [45, 105, 110, 102] := by decide +kernel
theorem par_inf : ParE [105, 110, 102] 1 0 0 := ⟨fun _ => ⟨rfl, rfl, rfl⟩, fun h => absurd h (by decide), fun h => absurd rfl h, fun h => absurd rfl h, fun h => absurd rfl h⟩
theorem plus_form : ¬ Form [43, 105, 110, 102] := by
  rintro (h | ⟨c, r, h | h, _, hd⟩)
  · revert h; decide
  · have := hd 43 (by rw [← h]; decide)
    revert this; unfold dig; decide
  · have h2 : (43 : UInt8) = 45 := congrArg (fun l => l.getD 0 0) h
    revert h2; decide
theorem par_plus : ParE [43, 105, 110, 102] 0 0 5 := ⟨fun h => absurd h (by decide), fun h => absurd h (by decide), fun _ _ h => absurd h plus_form, fun _ _ h => absurd h plus_form, fun _ _ _ => ⟨rfl, rfl, rfl⟩⟩
theorem big_form : Form [57, 50, 50, 51, 51, 55, 50, 48, 51, 54, 56, 53, 52, 55, 55, 53, 56, 48, 56] := .inr ⟨57, [50, 50, 51, 51, 55, 50, 48, 51, 54, 56, 53, 52, 55, 55, 53, 56, 48, 56], .inl rfl, by decide, by unfold dig; decide⟩
theorem big_val : textVal [57, 50, 50, 51, 51, 55, 50, 48, 51, 54, 56, 53, 52, 55, 55, 53, 56, 48, 56] = 9223372036854775808 := by decide +kernel
theorem par_big : ParE [57, 50, 50, 51, 51, 55, 50, 48, 51, 54, 56, 53, 52, 55, 55, 53, 56, 48, 56] 0 0 15 := ⟨fun h => absurd h (by decide), fun h => absurd h (by decide), fun _ _ _ h => by rw [big_val] at h; omega, fun _ _ _ _ => ⟨rfl, rfl, rfl⟩, fun _ _ h => absurd big_form h⟩
end Go.Proofs.YtbnlomjlapnoaaaDoor
