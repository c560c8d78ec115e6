/-
 DERIVED. Blocks of a walk's own, whatever they hold.
-/
import Derived.Test.YteddfolhpoikcaaGreatDoorPRnLit
namespace Go.Proofs.YteddfolhpoikcaaGreatDoor
open Go.RowKit
set_option maxRecDepth 100000

/-- a block of the walk's own -/
structure Ob (w : World) (k : Nat) (t : TypeId) (cs : Array Value) (W : World) : Prop where
 below : Below w.heap.size w W
 base : w.heap.size ≤ k
 heap : W.heap[k]? = some (.cells cs t (0, 0))
variable {w W W' : World} {k : Nat} {t : TypeId} {cs : Array Value}
theorem Ob.lt (h : Ob w k t cs W) : k < W.heap.size := (Array.getElem?_eq_some_iff.1 h.heap).1
theorem Ob.step (h : Ob w k t cs W) (hb : Below W.heap.size W W') : Ob w k t cs W' := ⟨h.below.trans (hb.mono h.below.size), h.base, by rw [hb.block _ h.lt]; exact h.heap⟩
theorem ob_new (t : TypeId) (cs : Array Value) (hb : Below w.heap.size w W) : Ob w W.heap.size t cs (W.alloc (.cells cs t)) := ⟨hb.alloc hb.size _, hb.size, heap_alloc_new _ _⟩
theorem Ob.cell (h : Ob w k t cs W) {j : Nat} {v : Value} (hv : cs[j]? = some v) : W.cell? ⟨k, j, none⟩ = some v := by rw [cell_of_row W _ j _ _ _ h.heap, hv]
theorem Ob.rg {r : Rn} (h : Ob w k t #[.int .i8 r.f, .int .i64 r.d, .int .i8 r.g, .int .i64 r.e] W) : Rg w k r W := ⟨h.below, h.lt, h.cell rfl, h.cell rfl, h.cell rfl, h.cell rfl⟩
theorem Ob.eb {f d : Int} (h : Ob w k t #[.int .i8 f, .int .i64 d] W) : Eb w k f d W := ⟨h.below, h.lt, h.cell rfl, h.cell rfl⟩
theorem ob_two (w : World) (c1 c2 : Array Value) (t1 t2 : TypeId) : Ob w w.heap.size t1 c1 ((w.alloc (.cells c1 t1)).alloc (.cells c2 t2)) ∧ Ob w (w.heap.size + 1) t2 c2 ((w.alloc (.cells c1 t1)).alloc (.cells c2 t2)) := by
 have h1 := ob_new t1 c1 (Below.refl w.heap.size w)
 have h2 := ob_new t2 c2 h1.below
 rw [World.size_alloc] at h2
 exact ⟨h1.step ((Below.refl (w.alloc (.cells c1 t1)).heap.size _).alloc (Nat.le_refl _) (.cells c2 t2)), h2⟩
theorem ob_three (w : World) (c1 c2 c3 : Array Value) (t1 t2 t3 : TypeId) : Ob w w.heap.size t1 c1 (((w.alloc (.cells c1 t1)).alloc (.cells c2 t2)).alloc (.cells c3 t3)) ∧ Ob w (w.heap.size + 1) t2 c2 (((w.alloc (.cells c1 t1)).alloc (.cells c2 t2)).alloc (.cells c3 t3)) ∧ Ob w (w.heap.size + 1 + 1) t3 c3 (((w.alloc (.cells c1 t1)).alloc (.cells c2 t2)).alloc (.cells c3 t3)) := by
 obtain ⟨h1, h2⟩ := ob_two w c1 c2 t1 t2
 have h3 := ob_new t3 c3 h1.below
 rw [World.size_alloc, World.size_alloc] at h3
 have hs := (Below.refl ((w.alloc (.cells c1 t1)).alloc (.cells c2 t2)).heap.size _).alloc (Nat.le_refl _) (.cells c3 t3)
 exact ⟨h1.step hs, h2.step hs, h3⟩
end Go.Proofs.YteddfolhpoikcaaGreatDoor
