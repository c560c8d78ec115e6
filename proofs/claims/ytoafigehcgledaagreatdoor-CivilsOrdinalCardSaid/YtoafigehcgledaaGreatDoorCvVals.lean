/-
  DERIVED. Rows of values that a walk has laid, as every world behind them has them; what the chapter's examples say.
-/
import Derived.Test.YtoafigehcgledaaGreatDoorCvCore
namespace Go.Proofs.YtoafigehcgledaaGreatDoor
open Go.RowKit

structure Vals (w : World) (g : Nat) (l : List Value) (W : World) : Prop where
  below : Below w.heap.size w W
  size : g < W.heap.size
  v_at : ∀ i v, l[i]? = some v → W.cell? ⟨g, i, none⟩ = some v
theorem Vals.step {w W W' : World} {g : Nat} {l : List Value} (h : Vals w g l W) (hb : Below W.heap.size W W') : Vals w g l W' :=
  ⟨h.below.trans (hb.mono h.below.size), by have := hb.size; have := h.size; omega, fun i v hi => by rw [hb.cell (p := ⟨g, i, none⟩) h.size]; exact h.v_at i v hi⟩
theorem vals_new {w W : World} (l : List Value) (t : TypeId) (hb : Below w.heap.size w W) : Vals w W.heap.size l (W.alloc (.cells l.toArray t)) :=
  ⟨hb.alloc hb.size _, by simp, fun i v hi => by rw [World.cell?_alloc_new, List.getElem?_toArray]; exact hi⟩
theorem Vals.other {w W : World} {g k : Nat} {l : List Value} (h : Vals w g l W) (hk : ¬ g = k) (hg : w.heap.size ≤ k) (a b c : Int) : Vals w g l (World.set3 W k a b c) :=
  ⟨below_set3 h.below hg a b c, by rw [size_set3]; exact h.size, fun i v hi => by rw [cell_set3 W a b c i hk]; exact h.v_at i v hi⟩
/-- the texts of the examples -/
theorem txt_5 : bs (textC 5 6 7) = ⟨#[48, 48, 48, 53, 45, 48, 54, 45, 48, 55]⟩ := by
  have : textC 5 6 7 = [48, 48, 48, 53, 45, 48, 54, 45, 48, 55] := by
    unfold textC
    rw [show (5 : Int).natAbs = 5 from rfl, pad_four (by decide)]
    decide
  rw [this]; rfl
theorem txt_12345 : bs (textC (-12345) 11 30) = ⟨#[45, 49, 50, 51, 52, 53, 45, 49, 49, 45, 51, 48]⟩ := by
  have : textC (-12345) 11 30 = [45, 49, 50, 51, 52, 53, 45, 49, 49, 45, 51, 48] := by
    unfold textC
    rw [show (-12345 : Int).natAbs = 12345 from rfl, pad_big (k := 4) (by decide) (by decide) (by decide)]
    decide
  rw [this]; rfl
theorem form_5 : CvForm [48, 48, 48, 53, 45, 48, 54, 45, 48, 55] false [48, 48, 48, 53] 48 54 48 55 := by
  refine ⟨rfl, ?_, by decide, by decide, by decide, ?_, ?_, ?_, ?_⟩ <;> unfold dig <;> decide
theorem form_2001 : CvForm [50, 48, 48, 49, 45, 48, 50, 45, 50, 57] false [50, 48, 48, 49] 48 50 50 57 := by
  refine ⟨rfl, ?_, by decide, by decide, by decide, ?_, ?_, ?_, ?_⟩ <;> unfold dig <;> decide
theorem no_short {l : List UInt8} (h : l.length < 10) : ¬ ∃ neg yr a b c d, CvForm l neg yr a b c d := by
  rintro ⟨neg, yr, a, b, c, d, hF⟩
  have h4 := hF.four
  have he := congrArg List.length hF.eq
  cases neg <;> simp at he <;> omega
theorem no_zero : ¬ ∃ neg yr a b c d, CvForm [45, 48, 48, 48, 48, 45, 48, 49, 45, 48, 49] neg yr a b c d := by
  rintro ⟨neg, yr, a, b, c, d, hF⟩
  have he := congrArg (List.take 5) hF.eq
  have hl := congrArg List.length hF.eq
  cases neg
  · simp at hl
    have h5 : yr.length = 5 := by omega
    rw [show (if false = true then [45] else ([] : List UInt8)) = [] from rfl, List.nil_append, List.take_append_of_le_length (by omega), ← h5, List.take_length] at he
    have := hF.ds 45 (by rw [← he, h5]; decide)
    unfold dig at this
    revert this; decide
  · simp at hl
    have h4 : yr.length = 4 := by omega
    have he2 : ([48, 48, 48, 48] : List UInt8) = yr := by
      have h := congrArg (fun l => (l.drop 1).take 4) hF.eq
      have e : (if true = true then [45] else ([] : List UInt8)) ++ yr ++ [45, a, b, 45, c, d] = 45 :: (yr ++ [45, a, b, 45, c, d]) := rfl
      rw [e] at h
      have h2 : ([48, 48, 48, 48] : List UInt8) = (yr ++ [45, a, b, 45, c, d]).take 4 := h
      rw [List.take_append_of_le_length (by omega), ← h4, List.take_length] at h2
      exact h2
    exact hF.nz ⟨rfl, he2.symm⟩
end Go.Proofs.YtoafigehcgledaaGreatDoor
