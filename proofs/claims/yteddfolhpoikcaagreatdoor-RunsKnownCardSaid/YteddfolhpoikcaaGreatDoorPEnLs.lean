/-
 DERIVED. Ends in a row, as every world of a walk has them.
-/
import Derived.Test.YteddfolhpoikcaaGreatDoorPRg
namespace Go.Proofs.YteddfolhpoikcaaGreatDoor
open Go.RowKit

def efst (l : List (Int × Int)) (j : Nat) : Int := (l.getD j (0, 0)).1
def esnd (l : List (Int × Int)) (j : Nat) : Int := (l.getD j (0, 0)).2
/-- ends in a row, as every world of a walk has them -/
structure Ls (w : World) (g : Nat) (l : List (Int × Int)) (W : World) : Prop where
 below : Below w.heap.size w W
 size : g < W.heap.size
 fst : ∀ j, j < l.length → W.cell? ⟨g, j * 2, none⟩ = some (.int .i8 (efst l j))
 snd : ∀ j, j < l.length → W.cell? ⟨g, j * 2 + 1, none⟩ = some (.int .i64 (esnd l j))
theorem Ls.step {w W W' : World} {g : Nat} {l : List (Int × Int)} (h : Ls w g l W) (hb : Below W.heap.size W W') : Ls w g l W' :=
 ⟨h.below.trans (hb.mono h.below.size), by have := hb.size; have := h.size; omega, fun j hj => by rw [hb.cell (p := ⟨g, j * 2, none⟩) h.size]; exact h.fst j hj, fun j hj => by rw [hb.cell (p := ⟨g, j * 2 + 1, none⟩) h.size]; exact h.snd j hj⟩
end Go.Proofs.YteddfolhpoikcaaGreatDoor
