/-
  DERIVED. TEXTS OF ENDS as lists of bytes, and back. No program.
-/
import Derived.Test.YtbnlomjlapnoaaaDoorEnMath
import Derived.Test.YtbnlomjlapnoaaaDoorR1Itoa
namespace Go.Proofs.YtbnlomjlapnoaaaDoor

def infL : List UInt8 := [105, 110, 102]
def minfL : List UInt8 := [45, 105, 110, 102]
def textE (f d : Int) : List UInt8 := if f < 0 then minfL else if 0 < f then infL else Lib.itoa d
/-- what is read: Inf, Day, the error -/
structure ParE (l : List UInt8) (f d c : Int) : Prop where
  inf : l = infL → f = 1 ∧ d = 0 ∧ c = 0
  minf : l = minfL → f = -1 ∧ d = 0 ∧ c = 0
  fits : ¬ l = infL → ¬ l = minfL → Form l → (-9223372036854775808 ≤ textVal l ∧ textVal l ≤ 9223372036854775807) → f = 0 ∧ d = textVal l ∧ c = 0
  over : ¬ l = infL → ¬ l = minfL → Form l → ¬ (-9223372036854775808 ≤ textVal l ∧ textVal l ≤ 9223372036854775807) → f = 0 ∧ d = 0 ∧ c = 15
  no : ¬ l = infL → ¬ l = minfL → ¬ Form l → f = 0 ∧ d = 0 ∧ c = 5
theorem par_is (l : List UInt8) : ∃ f d c, ParE l f d c := by
  by_cases h1 : l = infL
  · exact ⟨1, 0, 0, fun _ => ⟨rfl, rfl, rfl⟩, fun h => by rw [h1] at h; revert h; decide, fun x => absurd h1 x, fun x => absurd h1 x, fun x => absurd h1 x⟩
  · by_cases h2 : l = minfL
    · exact ⟨-1, 0, 0, fun x => absurd x h1, fun _ => ⟨rfl, rfl, rfl⟩, fun _ x => absurd h2 x, fun _ x => absurd h2 x, fun _ x => absurd h2 x⟩
    · by_cases h3 : Form l
      · by_cases h4 : -9223372036854775808 ≤ textVal l ∧ textVal l ≤ 9223372036854775807
        · exact ⟨0, textVal l, 0, fun x => absurd x h1, fun x => absurd x h2, fun _ _ _ _ => ⟨rfl, rfl, rfl⟩, fun _ _ _ x => absurd h4 x, fun _ _ x => absurd h3 x⟩
        · exact ⟨0, 0, 15, fun x => absurd x h1, fun x => absurd x h2, fun _ _ _ x => absurd x h4, fun _ _ _ _ => ⟨rfl, rfl, rfl⟩, fun _ _ x => absurd h3 x⟩
      · exact ⟨0, 0, 5, fun x => absurd x h1, fun x => absurd x h2, fun _ _ x => absurd x h3, fun _ _ x => absurd x h3, fun _ _ _ => ⟨rfl, rfl, rfl⟩⟩
theorem inf_form : ¬ Form infL ∧ ¬ Form minfL := by
  constructor <;> rintro (h | ⟨c, r, h | h, _, hd⟩)
  · revert h; decide
  · have := hd 105 (by rw [← h]; decide)
    revert this; unfold dig; decide
  · have h2 : (105 : UInt8) = 45 := congrArg (fun l => l.getD 0 0) h
    revert h2; decide
  · revert h; decide
  · have := hd 45 (by rw [← h]; decide)
    revert this; unfold dig; decide
  · have h2 := List.tail_eq_of_cons_eq h
    have := hd 105 (by rw [← h2]; decide)
    revert this; unfold dig; decide
/-- the text of a right end is read as the end -/
theorem text_again {f d : Int} (h : chkE f d = 0) (d0 : -9223372036854775808 ≤ d) (d1 : d ≤ 9223372036854775807) : ParE (textE f d) f d 0 := by
  have hc := chkE_zero.1 h
  obtain ⟨g, e, c, hp⟩ := par_is (textE f d)
  have key : g = f ∧ e = d ∧ c = 0 := by
    rcases hc with rfl | ⟨rfl | rfl, rfl⟩
    · have ht : textE 0 d = Lib.itoa d := by unfold textE; rw [if_neg (by decide), if_neg (by decide)]
      obtain ⟨h1, h2, _⟩ := R1.itoa_form d
      rw [ht] at hp
      have n1 : ¬ Lib.itoa d = infL := fun x => inf_form.1 (by rw [← x]; exact h1)
      have n2 : ¬ Lib.itoa d = minfL := fun x => inf_form.2 (by rw [← x]; exact h1)
      have := hp.fits n1 n2 h1 (by rw [h2]; exact ⟨d0, d1⟩)
      rw [h2] at this
      exact this
    · exact hp.inf rfl
    · exact hp.minf rfl
  obtain ⟨rfl, rfl, rfl⟩ := key
  exact hp
/-- what was read has this text -/
theorem par_text {l : List UInt8} {f d : Int} (h : ParE l f d 0) (hs : ∀ l, Form l → Lib.itoa (textVal l) = l) : chkE f d = 0 ∧ textE f d = l := by
  by_cases h1 : l = infL
  · obtain ⟨rfl, rfl, _⟩ := h.inf h1
    exact ⟨by decide, h1.symm⟩
  · by_cases h2 : l = minfL
    · obtain ⟨rfl, rfl, _⟩ := h.minf h2
      exact ⟨by decide, h2.symm⟩
    · by_cases h3 : Form l
      · by_cases h4 : -9223372036854775808 ≤ textVal l ∧ textVal l ≤ 9223372036854775807
        · obtain ⟨rfl, rfl, _⟩ := h.fits h1 h2 h3 h4
          exact ⟨chkE_zero.2 (.inl rfl), by unfold textE; rw [if_neg (by decide), if_neg (by decide)]; exact hs l h3⟩
        · have := (h.over h1 h2 h3 h4).2.2; omega
      · have := (h.no h1 h2 h3).2.2; omega
theorem textE_len {f d : Int} (d0 : -9223372036854775808 ≤ d) (d1 : d ≤ 9223372036854775807) : (textE f d).length ≤ 60 := by
  unfold textE
  split
  · decide
  · split
    · decide
    · have h := (R1.itoa_form d).2.2
      have hn := dg_length_le d.natAbs 19 (by omega)
      omega
end Go.Proofs.YtbnlomjlapnoaaaDoor
