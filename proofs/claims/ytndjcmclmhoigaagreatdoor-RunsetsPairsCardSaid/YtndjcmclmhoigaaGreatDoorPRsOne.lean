/-
 DERIVED. WALK of the law RunsetsOne, given the contracts of package runsets. Written by mkrs3.py.
-/
import Derived.Test.YtndjcmclmhoigaaGreatDoorPC3
namespace Go.Proofs.YtndjcmclmhoigaaGreatDoor
open Go.RowKit
set_option maxRecDepth 100000

variable {w : World} {a : Option Addr} {l : List Rn} {cap : Nat} {d : Int}
theorem cpl_has {u : List Rn} (hl : InL l) (cl : RsCan l) (h : IsRs u (fun x => memR [wholeR] x ∧ leftM l x)) (d0 : -9223372036854775808 ≤ d) (d1 : d ≤ 9223372036854775807) : hasRs u d = !hasRs l d := by
 rw [Bool.eq_iff_iff, has_is h, Bool.not_eq_true', ← Bool.not_eq_true, has_can hl cl, left_day d0 d1]
 exact ⟨fun q => q.2, fun q => ⟨⟨wholeR, by simp, whole_has (by omega) (by omega)⟩, q⟩⟩
theorem Eb.two {w W : World} {g : Nat} {f d : Int} (h : Eb w g f d W) : W.cell? ⟨g, 0, none⟩ = some (.int .i8 f) ∧ W.cell? ⟨g, 1, none⟩ = some (.int .i64 d) := ⟨h.c0, h.c1⟩
theorem Lr.first {w W : World} {g s : Nat} {r : Rn} (h : Lr w (some ⟨g, s, none⟩) l W) (hr : l[0]? = some r) : At4 W g s r := by
 have := h.cells hr
 rwa [Nat.zero_mul, Nat.add_zero] at this
end Go.Proofs.YtndjcmclmhoigaaGreatDoor
