/-
 DERIVED. What package ends gives, as a structure of contracts.
-/
import Derived.Test.YteddfolhpoikcaaGreatDoorPRg
namespace Go.Proofs.YteddfolhpoikcaaGreatDoor
open Go.RowKit
set_option maxRecDepth 100000

/-- what package ends gives, but for Prev -/
structure EndCoreN (I : World → Prop) : Prop where
 keep : ∀ {w w' : World}, I w → Below w.heap.size w w' → I w'
 check : ∀ {f d c : Int} (w : World), I w → -9223372036854775808 ≤ d → d ≤ 9223372036854775807 → chkE f d = c → Calls Tryz.prog 38 #[.agg #[.int .i8 f, .int .i64 d]] w fun x w' => x = .returned (.int .i64 c) ∧ Below w.heap.size w w'
 of : ∀ {d : Int} (w : World), I w → -9223372036854775808 ≤ d → d ≤ 9223372036854775807 → Calls Tryz.prog 47 #[.int .i64 d] w fun x w' => x = .returned (.agg #[.int .i8 0, .int .i64 d]) ∧ Below w.heap.size w w'
 cmp : ∀ {f d g e v : Int} (w : World), I w → -9223372036854775808 ≤ d → d ≤ 9223372036854775807 → -9223372036854775808 ≤ e → e ≤ 9223372036854775807 → cmpE f d g e = v → Calls Tryz.prog 39 #[.agg #[.int .i8 f, .int .i64 d], .agg #[.int .i8 g, .int .i64 e]] w fun x w' => x = .returned (.int .i64 v) ∧ Below w.heap.size w w'
 next : ∀ {f d g e c : Int} (w : World), I w → -9223372036854775808 ≤ d → d ≤ 9223372036854775807 → StepE true f d g e c → Calls Tryz.prog 69 #[.agg #[.int .i8 f, .int .i64 d]] w fun x w' => x = .returned (.tuple #[.agg #[.int .i8 g, .int .i64 e], .int .i64 c]) ∧ Below w.heap.size w w'
 min_le : ∀ {f d g e : Int} (w : World), I w → -9223372036854775808 ≤ d → d ≤ 9223372036854775807 → -9223372036854775808 ≤ e → e ≤ 9223372036854775807 → cmpE f d g e ≤ 0 → Calls Tryz.prog 43 #[.agg #[.int .i8 f, .int .i64 d], .agg #[.int .i8 g, .int .i64 e]] w fun x w' => x = .returned (.agg #[.int .i8 f, .int .i64 d]) ∧ Below w.heap.size w w'
 min_gt : ∀ {f d g e : Int} (w : World), I w → -9223372036854775808 ≤ d → d ≤ 9223372036854775807 → -9223372036854775808 ≤ e → e ≤ 9223372036854775807 → ¬ cmpE f d g e ≤ 0 → Calls Tryz.prog 43 #[.agg #[.int .i8 f, .int .i64 d], .agg #[.int .i8 g, .int .i64 e]] w fun x w' => x = .returned (.agg #[.int .i8 g, .int .i64 e]) ∧ Below w.heap.size w w'
 max_le : ∀ {f d g e : Int} (w : World), I w → -9223372036854775808 ≤ d → d ≤ 9223372036854775807 → -9223372036854775808 ≤ e → e ≤ 9223372036854775807 → cmpE f d g e ≤ 0 → Calls Tryz.prog 44 #[.agg #[.int .i8 f, .int .i64 d], .agg #[.int .i8 g, .int .i64 e]] w fun x w' => x = .returned (.agg #[.int .i8 g, .int .i64 e]) ∧ Below w.heap.size w w'
 max_gt : ∀ {f d g e : Int} (w : World), I w → -9223372036854775808 ≤ d → d ≤ 9223372036854775807 → -9223372036854775808 ≤ e → e ≤ 9223372036854775807 → ¬ cmpE f d g e ≤ 0 → Calls Tryz.prog 44 #[.agg #[.int .i8 f, .int .i64 d], .agg #[.int .i8 g, .int .i64 e]] w fun x w' => x = .returned (.agg #[.int .i8 f, .int .i64 d]) ∧ Below w.heap.size w w'
 text_in : ∀ {f d : Int} (w : World), I w → -9223372036854775808 ≤ d → d ≤ 9223372036854775807 → chkE f d = 0 → Calls Tryz.prog 62 #[.agg #[.int .i8 f, .int .i64 d]] w fun x w' => x = .returned (.tuple #[.string (bs (textE f d)), .int .i64 0]) ∧ Below w.heap.size w w'
 text_out : ∀ {f d c : Int} (w : World), I w → -9223372036854775808 ≤ d → d ≤ 9223372036854775807 → chkE f d = c → ¬ c = 0 → Calls Tryz.prog 62 #[.agg #[.int .i8 f, .int .i64 d]] w fun x w' => x = .returned (.tuple #[.string ⟨#[]⟩, .int .i64 c]) ∧ Below w.heap.size w w'
 parse : ∀ {l : List UInt8} {f d c : Int} (w : World), I w → l.length ≤ 60 → ParE l f d c → Calls Tryz.prog 65 #[.string (bs l)] w fun x w' => x = .returned (.tuple #[.agg #[.int .i8 f, .int .i64 d], .int .i64 c]) ∧ Below w.heap.size w w'
end Go.Proofs.YteddfolhpoikcaaGreatDoor
