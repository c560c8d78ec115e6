/-
  DERIVED. What package ends gives, as structures of contracts; the statements' own functions. Written by mken.py.
-/
import Derived.Test.YtbnlomjlapnoaaaDoorEnRef
import Derived.Deep.RegionHeld3
namespace Go.Proofs.YtbnlomjlapnoaaaDoor
open Go.RowKit
set_option maxRecDepth 100000

/-- what package ends gives -/
structure EndCore (I : World → Prop) : Prop where
  keep : ∀ {w w' : World}, I w → Below w.heap.size w w' → I w'
  check : ∀ {f d c : Int} (w : World), I w → -9223372036854775808 ≤ d → d ≤ 9223372036854775807 → chkE f d = c → Calls Tryd.prog 17 #[.agg #[.int .i8 f, .int .i64 d]] w fun x w' => x = .returned (.int .i64 c) ∧ Below w.heap.size w w'
  of : ∀ {d : Int} (w : World), I w → -9223372036854775808 ≤ d → d ≤ 9223372036854775807 → Calls Tryd.prog 20 #[.int .i64 d] w fun x w' => x = .returned (.agg #[.int .i8 0, .int .i64 d]) ∧ Below w.heap.size w w'
  cmp : ∀ {f d g e v : Int} (w : World), I w → -9223372036854775808 ≤ d → d ≤ 9223372036854775807 → -9223372036854775808 ≤ e → e ≤ 9223372036854775807 → cmpE f d g e = v → Calls Tryd.prog 8 #[.agg #[.int .i8 f, .int .i64 d], .agg #[.int .i8 g, .int .i64 e]] w fun x w' => x = .returned (.int .i64 v) ∧ Below w.heap.size w w'
  next : ∀ {f d g e c : Int} (w : World), I w → -9223372036854775808 ≤ d → d ≤ 9223372036854775807 → StepE true f d g e c → Calls Tryd.prog 13 #[.agg #[.int .i8 f, .int .i64 d]] w fun x w' => x = .returned (.tuple #[.agg #[.int .i8 g, .int .i64 e], .int .i64 c]) ∧ Below w.heap.size w w'
  prev : ∀ {f d g e c : Int} (w : World), I w → -9223372036854775808 ≤ d → d ≤ 9223372036854775807 → StepE false f d g e c → Calls Tryd.prog 14 #[.agg #[.int .i8 f, .int .i64 d]] w fun x w' => x = .returned (.tuple #[.agg #[.int .i8 g, .int .i64 e], .int .i64 c]) ∧ Below w.heap.size w w'
  min_le : ∀ {f d g e : Int} (w : World), I w → -9223372036854775808 ≤ d → d ≤ 9223372036854775807 → -9223372036854775808 ≤ e → e ≤ 9223372036854775807 → cmpE f d g e ≤ 0 → Calls Tryd.prog 10 #[.agg #[.int .i8 f, .int .i64 d], .agg #[.int .i8 g, .int .i64 e]] w fun x w' => x = .returned (.agg #[.int .i8 f, .int .i64 d]) ∧ Below w.heap.size w w'
  min_gt : ∀ {f d g e : Int} (w : World), I w → -9223372036854775808 ≤ d → d ≤ 9223372036854775807 → -9223372036854775808 ≤ e → e ≤ 9223372036854775807 → ¬ cmpE f d g e ≤ 0 → Calls Tryd.prog 10 #[.agg #[.int .i8 f, .int .i64 d], .agg #[.int .i8 g, .int .i64 e]] w fun x w' => x = .returned (.agg #[.int .i8 g, .int .i64 e]) ∧ Below w.heap.size w w'
  max_le : ∀ {f d g e : Int} (w : World), I w → -9223372036854775808 ≤ d → d ≤ 9223372036854775807 → -9223372036854775808 ≤ e → e ≤ 9223372036854775807 → cmpE f d g e ≤ 0 → Calls Tryd.prog 11 #[.agg #[.int .i8 f, .int .i64 d], .agg #[.int .i8 g, .int .i64 e]] w fun x w' => x = .returned (.agg #[.int .i8 g, .int .i64 e]) ∧ Below w.heap.size w w'
  max_gt : ∀ {f d g e : Int} (w : World), I w → -9223372036854775808 ≤ d → d ≤ 9223372036854775807 → -9223372036854775808 ≤ e → e ≤ 9223372036854775807 → ¬ cmpE f d g e ≤ 0 → Calls Tryd.prog 11 #[.agg #[.int .i8 f, .int .i64 d], .agg #[.int .i8 g, .int .i64 e]] w fun x w' => x = .returned (.agg #[.int .i8 f, .int .i64 d]) ∧ Below w.heap.size w w'
  text_in : ∀ {f d : Int} (w : World), I w → -9223372036854775808 ≤ d → d ≤ 9223372036854775807 → chkE f d = 0 → Calls Tryd.prog 21 #[.agg #[.int .i8 f, .int .i64 d]] w fun x w' => x = .returned (.tuple #[.string (bs (textE f d)), .int .i64 0]) ∧ Below w.heap.size w w'
  text_out : ∀ {f d c : Int} (w : World), I w → -9223372036854775808 ≤ d → d ≤ 9223372036854775807 → chkE f d = c → ¬ c = 0 → Calls Tryd.prog 21 #[.agg #[.int .i8 f, .int .i64 d]] w fun x w' => x = .returned (.tuple #[.string ⟨#[]⟩, .int .i64 c]) ∧ Below w.heap.size w w'
  parse : ∀ {l : List UInt8} {f d c : Int} (w : World), I w → l.length ≤ 60 → ParE l f d c → Calls Tryd.prog 22 #[.string (bs l)] w fun x w' => x = .returned (.tuple #[.agg #[.int .i8 f, .int .i64 d], .int .i64 c]) ∧ Below w.heap.size w w'
structure EndFns (I : World → Prop) : Prop extends EndCore I where
  lives : ∀ (w : World), I w → Calls Tryd.prog 12 #[] w fun e w' => e = .returned (.bool true) ∧ Below w.heap.size w w'
theorem gives_ok (f d : Int) (w : World) :
    Calls Tryd.prog 19 #[.agg #[.int .i8 f, .int .i64 d], .int .i64 0, .agg #[.int .i8 f, .int .i64 d], .int .i64 0] w fun e w' => e = .returned (.bool true) ∧ Below w.heap.size w w' := by
  have HB := Kp.mk (((Below.refl w.heap.size w).alloc (Nat.le_refl _) (.cells #[.int .i8 f, .int .i64 d] 24)).alloc (by simp) (.cells #[.int .i8 f, .int .i64 d] 24))
  go_enter Tryd.func19, Tryd.ntmps19
  go_wp2_with fail
  go_ret
  exact ⟨rfl, HB.out⟩
theorem gives_bad {c : Int} (h : ¬ c = 0) (f d : Int) (w : World) :
    Calls Tryd.prog 19 #[.agg #[.int .i8 0, .int .i64 0], .int .i64 c, .agg #[.int .i8 f, .int .i64 d], .int .i64 c] w fun e w' => e = .returned (.bool true) ∧ Below w.heap.size w w' := by
  have HB := Kp.mk (((Below.refl w.heap.size w).alloc (Nat.le_refl _) (.cells #[.int .i8 0, .int .i64 0] 24)).alloc (by simp) (.cells #[.int .i8 f, .int .i64 d] 24))
  have t : (c != 0) = true := by rw [bne_iff_ne]; exact h
  clear h
  go_enter Tryd.func19, Tryd.ntmps19
  go_wp2_with fail
  go_ret
  exact ⟨rfl, HB.out⟩
/-- what is refused is the zero end -/
theorem gives_law {f d c : Int} (h : ¬ c = 0 → f = 0 ∧ d = 0) (w : World) :
    Calls Tryd.prog 19 #[.agg #[.int .i8 f, .int .i64 d], .int .i64 c, .agg #[.int .i8 f, .int .i64 d], .int .i64 c] w fun e w' => e = .returned (.bool true) ∧ Below w.heap.size w w' := by
  by_cases h0 : c = 0
  · subst h0; exact gives_ok f d w
  · obtain ⟨rfl, rfl⟩ := h h0; exact gives_bad h0 0 0 w
theorem StepE.zero {up : Bool} {f d g e c : Int} (h : StepE up f d g e c) (hc : ¬ c = 0) : g = 0 ∧ e = 0 := by
  by_cases h0 : chkE f d = 0
  · by_cases h1 : f = 0
    · by_cases h2 : d = (if up then 9223372036854775807 else -9223372036854775808)
      · have := h.over h1 h2; exact ⟨this.1, this.2.1⟩
      · exact absurd (h.day h1 h2).2.2 hc
    · exact absurd (h.inf h0 h1).2.2 hc
  · have := h.bad h0; exact ⟨this.1, this.2.1⟩
theorem ParE.zero {l : List UInt8} {f d c : Int} (h : ParE l f d c) (hc : ¬ c = 0) : f = 0 ∧ d = 0 := by
  by_cases h1 : l = infL
  · exact absurd (h.inf h1).2.2 hc
  · by_cases h2 : l = minfL
    · exact absurd (h.minf h2).2.2 hc
    · by_cases h3 : Form l
      · by_cases h4 : -9223372036854775808 ≤ textVal l ∧ textVal l ≤ 9223372036854775807
        · exact absurd (h.fits h1 h2 h3 h4).2.2 hc
        · have := h.over h1 h2 h3 h4; exact ⟨this.1, this.2.1⟩
      · have := h.no h1 h2 h3; exact ⟨this.1, this.2.1⟩
end Go.Proofs.YtbnlomjlapnoaaaDoor
