/-
  No cell of these rows narrows 'for every input' (looked for: loops, veiled, ifaces, maps, wideKeys, modest, calm, conditions, laid).
  DERIVED. THE GIVEN ROWS OF THIS SEAT. 5 by the template 'for every input the law returns true; each argument reads behind the call as it read before'; 0 by the template 'total and deterministic' (their statements: YtadnehnhgnfclaaTotals.lean).
  GIVEN WITH THE SEED: the statements are not yours to turn. If you find one false, say at which input.
  Laid BY PROGRAM, IN A SANDBOX (cutbox-rows.mjs): the forced cells as the released guide's own fill.sh prints them over the translation 855a5e686ff4dfa8… (all of the seat's roots in one cut). By AI agents, Wed Nov 11 2026. No macro, syntax, notation, axiom, sorry.
-/
import Derived.Test.YtadnehnhgnfclaaChecked
import GoSem.Claim
import GoSem.ClaimJoined
import GoSem.ClaimMapViews
import Derived.JoinedTies
import Derived.KernelRfl
namespace Go.Proofs.Ytadnehnhgnfclaa
/- THE CELL 'sum', in the pinned program and in every row, IS THE sha256 OF THE DUMP (.gsa) THAT YtadnehnhgnfclaaProg.lean LOADS. Nothing in Lean hashes anything: it is a label: what it is worth is what the hold of that sum in a sandbox is worth. -/
noncomputable def Try.pinned : Pinned := { name := "ytadnehnhgnfclaa", sum := "855a5e686ff4dfa8ba4f45aa4a43c351896dde4658af29881ca0633754fa9eeb", checked := Try.checked }
namespace Rows
def none {H : Type} : Left H := { results := [], args := [] }

/-- 'circalaw02.FloatsOrder': WHATEVER THE INPUT: true; the input reads as it did. -/
def floatsOrderSpec : ChangeSpec := { name := "floatsOrder", fn := fun _ => fun
  | [d1, d2, d3] => { results := [.lit (.bool true)], args := [d1, d2, d3] }
  | _ => none }
def floatsOrderRow : OpenClaim := { program := "ytadnehnhgnfclaa", sum := "855a5e686ff4dfa8ba4f45aa4a43c351896dde4658af29881ca0633754fa9eeb", func := "circa/circalaw02.FloatsOrder", spec := "floatsOrder", inPlace := ["math.Float64bits", "math.Float64frombits", "math.archFloor", "math.archTrunc", "math.archCeil"], unfollowed := true, recurses := true, apart := false }
def FloatsOrderSaid : Prop := floatsOrderRow.holds Try.pinned (OpenSpec.ofChange floatsOrderSpec)

/-- ITS FALSE NEIGHBOUR: 'it returns false'. Refute it at one input. -/
def floatsOrderWrong : ChangeSpec := { name := "floatsOrder", fn := fun _ => fun
  | [d1, d2, d3] => { results := [.lit (.bool false)], args := [d1, d2, d3] }
  | _ => none }
def FloatsOrderWrongFalsely : Prop := floatsOrderRow.holds Try.pinned (OpenSpec.ofChange floatsOrderWrong)

/-- 'circalaw02.FloatsNext': WHATEVER THE INPUT: true; the input reads as it did. -/
def floatsNextSpec : ChangeSpec := { name := "floatsNext", fn := fun _ => fun
  | [d1, d2] => { results := [.lit (.bool true)], args := [d1, d2] }
  | _ => none }
def floatsNextRow : OpenClaim := { program := "ytadnehnhgnfclaa", sum := "855a5e686ff4dfa8ba4f45aa4a43c351896dde4658af29881ca0633754fa9eeb", func := "circa/circalaw02.FloatsNext", spec := "floatsNext", inPlace := ["math.Float64bits", "math.Float64frombits", "math.archFloor", "math.archTrunc", "math.archCeil"], unfollowed := true, recurses := true, apart := false }
def FloatsNextSaid : Prop := floatsNextRow.holds Try.pinned (OpenSpec.ofChange floatsNextSpec)

/-- ITS FALSE NEIGHBOUR: 'it returns false'. Refute it at one input. -/
def floatsNextWrong : ChangeSpec := { name := "floatsNext", fn := fun _ => fun
  | [d1, d2] => { results := [.lit (.bool false)], args := [d1, d2] }
  | _ => none }
def FloatsNextWrongFalsely : Prop := floatsNextRow.holds Try.pinned (OpenSpec.ofChange floatsNextWrong)

/-- 'circalaw02.FloatsNear': WHATEVER THE INPUT: true; the input reads as it did. -/
def floatsNearSpec : ChangeSpec := { name := "floatsNear", fn := fun _ => fun
  | [d1, d2] => { results := [.lit (.bool true)], args := [d1, d2] }
  | _ => none }
def floatsNearRow : OpenClaim := { program := "ytadnehnhgnfclaa", sum := "855a5e686ff4dfa8ba4f45aa4a43c351896dde4658af29881ca0633754fa9eeb", func := "circa/circalaw02.FloatsNear", spec := "floatsNear", inPlace := ["math.archFloor", "math.Float64bits", "math.Float64frombits", "math.archTrunc", "math.archCeil"], unfollowed := true, recurses := true, apart := false }
def FloatsNearSaid : Prop := floatsNearRow.holds Try.pinned (OpenSpec.ofChange floatsNearSpec)

/-- ITS FALSE NEIGHBOUR: 'it returns false'. Refute it at one input. -/
def floatsNearWrong : ChangeSpec := { name := "floatsNear", fn := fun _ => fun
  | [d1, d2] => { results := [.lit (.bool false)], args := [d1, d2] }
  | _ => none }
def FloatsNearWrongFalsely : Prop := floatsNearRow.holds Try.pinned (OpenSpec.ofChange floatsNearWrong)

/-- 'circalaw02.FloatsWhole': WHATEVER THE INPUT: true; the input reads as it did. -/
def floatsWholeSpec : ChangeSpec := { name := "floatsWhole", fn := fun _ => fun
  | [d1, d2] => { results := [.lit (.bool true)], args := [d1, d2] }
  | _ => none }
def floatsWholeRow : OpenClaim := { program := "ytadnehnhgnfclaa", sum := "855a5e686ff4dfa8ba4f45aa4a43c351896dde4658af29881ca0633754fa9eeb", func := "circa/circalaw02.FloatsWhole", spec := "floatsWhole", inPlace := ["math.archFloor", "math.Float64bits", "math.Float64frombits", "math.archTrunc", "math.archCeil"], unfollowed := true, recurses := true, apart := false }
def FloatsWholeSaid : Prop := floatsWholeRow.holds Try.pinned (OpenSpec.ofChange floatsWholeSpec)

/-- ITS FALSE NEIGHBOUR: 'it returns false'. Refute it at one input. -/
def floatsWholeWrong : ChangeSpec := { name := "floatsWhole", fn := fun _ => fun
  | [d1, d2] => { results := [.lit (.bool false)], args := [d1, d2] }
  | _ => none }
def FloatsWholeWrongFalsely : Prop := floatsWholeRow.holds Try.pinned (OpenSpec.ofChange floatsWholeWrong)

/-- 'circalaw02.FloatsKnown': WHATEVER THE INPUT: true; the input reads as it did. -/
def floatsKnownSpec : ChangeSpec := { name := "floatsKnown", fn := fun _ => fun
  | [] => { results := [.lit (.bool true)], args := [] }
  | _ => none }
def floatsKnownRow : OpenClaim := { program := "ytadnehnhgnfclaa", sum := "855a5e686ff4dfa8ba4f45aa4a43c351896dde4658af29881ca0633754fa9eeb", func := "circa/circalaw02.FloatsKnown", spec := "floatsKnown", inPlace := ["math.Float64frombits", "math.Float64bits", "math.archFloor", "math.archTrunc", "math.archCeil"], unfollowed := true, recurses := true, apart := false }
def FloatsKnownSaid : Prop := floatsKnownRow.holds Try.pinned (OpenSpec.ofChange floatsKnownSpec)

/-- ITS FALSE NEIGHBOUR: 'it returns false'. Refute it at one input. -/
def floatsKnownWrong : ChangeSpec := { name := "floatsKnown", fn := fun _ => fun
  | [] => { results := [.lit (.bool false)], args := [] }
  | _ => none }
def FloatsKnownWrongFalsely : Prop := floatsKnownRow.holds Try.pinned (OpenSpec.ofChange floatsKnownWrong)

/- THE SECOND FORM. 'bulk': how many values and letters a reading holds, each counted each time it is reached (what is shared counts as often as it is met; a slice's spare places count too). A statement '..UptoSaid' is the law's where the arguments, and the package variables that the reading takes, are together of bulk at most 1048576: NARROWER than '..Said'. Prove '..Said' where nothing that the law and all that it calls make is longer than what came in: it says more and counts as full. Else prove '..UptoSaid'. A law counts once. -/
mutual
def uptoBulk {H : Type} : DataW H → Nat
  | .lit (.string bytes) => bytes.length + 1
  | .lit _ => 1
  | .nil => 1
  | .ptr d => uptoBulk d + 1
  | .slice elems spare => uptoBulkAll elems + uptoBulkAll spare + 1
  | .agg parts => uptoBulkAll parts + 1
  | .iface _ d => uptoBulk d + 1
  | .map entries => uptoBulkEntries entries + 1
  | .held _ => 1
def uptoBulkAll {H : Type} : List (DataW H) → Nat
  | [] => 0
  | d :: r => uptoBulk d + uptoBulkAll r
def uptoBulkEntries {H : Type} : List (Lit × DataW H) → Nat
  | [] => 0
  | x :: r => uptoBulkEntry x + uptoBulkEntries r
def uptoBulkEntry {H : Type} : Lit × DataW H → Nat
  | (.string bytes, d) => bytes.length + uptoBulk d + 1
  | (_, d) => uptoBulk d + 1
 end
def uptoSmall : (H : Type) → List (DataW H) → Bool := fun _ ds => decide (uptoBulkAll ds ≤ 1048576)
def OpenSpec.upto (s : _root_.Go.ChangeSpec) : _root_.Go.OpenSpec := { _root_.Go.OpenSpec.ofChange s with cond := some uptoSmall }

/-- 'circalaw02.FloatsOrder', WHERE WHAT IT READS IS OF BULK AT MOST 1048576: true; the input reads as it did. -/
def floatsOrderUptoRow : OpenClaim := { program := "ytadnehnhgnfclaa", sum := "855a5e686ff4dfa8ba4f45aa4a43c351896dde4658af29881ca0633754fa9eeb", func := "circa/circalaw02.FloatsOrder", spec := "floatsOrder", inPlace := ["math.Float64bits", "math.Float64frombits", "math.archFloor", "math.archTrunc", "math.archCeil"], unfollowed := true, recurses := true, apart := false, narrowed := true }
def FloatsOrderUptoSaid : Prop := floatsOrderUptoRow.holds Try.pinned (OpenSpec.upto floatsOrderSpec)

/-- 'circalaw02.FloatsNext', WHERE WHAT IT READS IS OF BULK AT MOST 1048576: true; the input reads as it did. -/
def floatsNextUptoRow : OpenClaim := { program := "ytadnehnhgnfclaa", sum := "855a5e686ff4dfa8ba4f45aa4a43c351896dde4658af29881ca0633754fa9eeb", func := "circa/circalaw02.FloatsNext", spec := "floatsNext", inPlace := ["math.Float64bits", "math.Float64frombits", "math.archFloor", "math.archTrunc", "math.archCeil"], unfollowed := true, recurses := true, apart := false, narrowed := true }
def FloatsNextUptoSaid : Prop := floatsNextUptoRow.holds Try.pinned (OpenSpec.upto floatsNextSpec)

/-- 'circalaw02.FloatsNear', WHERE WHAT IT READS IS OF BULK AT MOST 1048576: true; the input reads as it did. -/
def floatsNearUptoRow : OpenClaim := { program := "ytadnehnhgnfclaa", sum := "855a5e686ff4dfa8ba4f45aa4a43c351896dde4658af29881ca0633754fa9eeb", func := "circa/circalaw02.FloatsNear", spec := "floatsNear", inPlace := ["math.archFloor", "math.Float64bits", "math.Float64frombits", "math.archTrunc", "math.archCeil"], unfollowed := true, recurses := true, apart := false, narrowed := true }
def FloatsNearUptoSaid : Prop := floatsNearUptoRow.holds Try.pinned (OpenSpec.upto floatsNearSpec)

/-- 'circalaw02.FloatsWhole', WHERE WHAT IT READS IS OF BULK AT MOST 1048576: true; the input reads as it did. -/
def floatsWholeUptoRow : OpenClaim := { program := "ytadnehnhgnfclaa", sum := "855a5e686ff4dfa8ba4f45aa4a43c351896dde4658af29881ca0633754fa9eeb", func := "circa/circalaw02.FloatsWhole", spec := "floatsWhole", inPlace := ["math.archFloor", "math.Float64bits", "math.Float64frombits", "math.archTrunc", "math.archCeil"], unfollowed := true, recurses := true, apart := false, narrowed := true }
def FloatsWholeUptoSaid : Prop := floatsWholeUptoRow.holds Try.pinned (OpenSpec.upto floatsWholeSpec)

/-- 'circalaw02.FloatsKnown', WHERE WHAT IT READS IS OF BULK AT MOST 1048576: true; the input reads as it did. -/
def floatsKnownUptoRow : OpenClaim := { program := "ytadnehnhgnfclaa", sum := "855a5e686ff4dfa8ba4f45aa4a43c351896dde4658af29881ca0633754fa9eeb", func := "circa/circalaw02.FloatsKnown", spec := "floatsKnown", inPlace := ["math.Float64frombits", "math.Float64bits", "math.archFloor", "math.archTrunc", "math.archCeil"], unfollowed := true, recurses := true, apart := false, narrowed := true }
def FloatsKnownUptoSaid : Prop := floatsKnownUptoRow.holds Try.pinned (OpenSpec.upto floatsKnownSpec)

end Rows
end Go.Proofs.Ytadnehnhgnfclaa
