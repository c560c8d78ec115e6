/-
 DERIVED. Two numbers in a block, for the walks of the law RunsOne, given the contracts of package runs. Written by mkrn3.py.
-/
import Derived.Test.YteddfolhpoikcaaGreatDoorPRf
namespace Go.Proofs.YteddfolhpoikcaaGreatDoor
open Go.RowKit
set_option maxRecDepth 100000

/-- two numbers in a block -/
structure Pz (w : World) (k : Nat) (x y : Int) (W : World) : Prop where
 below : Below w.heap.size w W
 size : k < W.heap.size
 c0 : W.cell? ⟨k, 0, none⟩ = some (.int .i64 x)
 c1 : W.cell? ⟨k, 1, none⟩ = some (.int .i64 y)
theorem Pz.step {w W W' : World} {k : Nat} {x y : Int} (h : Pz w k x y W) (hb : Below W.heap.size W W') : Pz w k x y W' :=
 ⟨h.below.trans (hb.mono h.below.size), by have := hb.size; have := h.size; omega, by rw [hb.cell (p := ⟨k, 0, none⟩) h.size]; exact h.c0, by rw [hb.cell (p := ⟨k, 1, none⟩) h.size]; exact h.c1⟩
theorem pz_new {w W : World} (x y : Int) (t : TypeId) (hb : Below w.heap.size w W) : Pz w W.heap.size x y (W.alloc (.cells #[.int .i64 x, .int .i64 y] t)) :=
 ⟨hb.alloc hb.size _, by simp, by rw [World.cell?_alloc_new]; rfl, by rw [World.cell?_alloc_new]; rfl⟩
theorem pz_two (w : World) (r : Rn) (x y : Int) : Rg w w.heap.size r ((w.alloc (.cells #[.int .i8 r.f, .int .i64 r.d, .int .i8 r.g, .int .i64 r.e] 26)).alloc (.cells #[.int .i64 x, .int .i64 y] 39)) ∧ Pz w (w.heap.size + 1) x y ((w.alloc (.cells #[.int .i8 r.f, .int .i64 r.d, .int .i8 r.g, .int .i64 r.e] 26)).alloc (.cells #[.int .i64 x, .int .i64 y] 39)) := by
 have h1 := rg_new r 26 (Below.refl w.heap.size w)
 have h2 := pz_new x y 39 h1.below
 rw [World.size_alloc] at h2
 exact ⟨h1.step ((Below.refl (w.alloc (.cells #[.int .i8 r.f, .int .i64 r.d, .int .i8 r.g, .int .i64 r.e] 26)).heap.size _).alloc (Nat.le_refl _) _), h2⟩
end Go.Proofs.YteddfolhpoikcaaGreatDoor
