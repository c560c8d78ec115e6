/-
 DERIVED. Blocks of a walk's own that hold a run or an end, by their heap rows (for what is stored into again).
-/
import Derived.Test.YteddfolhpoikcaaGreatDoorPRg
namespace Go.Proofs.YteddfolhpoikcaaGreatDoor
open Go.RowKit
set_option maxRecDepth 100000

/-- a block of the walk's own that holds a run -/
structure Rl (w : World) (k : Nat) (f d g e : Int) (W : World) : Prop where
 below : Below w.heap.size w W
 base : w.heap.size ≤ k
 heap : W.heap[k]? = some (.cells #[.int .i8 f, .int .i64 d, .int .i8 g, .int .i64 e] 26 (0, 0))
variable {w W W' : World} {k : Nat} {f d g e : Int}
theorem Rl.lt (h : Rl w k f d g e W) : k < W.heap.size := (Array.getElem?_eq_some_iff.1 h.heap).1
theorem Rl.ne (h : Rl w k f d g e W) : ¬ W.heap.size = k := by have := h.lt; omega
theorem Rl.step (h : Rl w k f d g e W) (hb : Below W.heap.size W W') : Rl w k f d g e W' := ⟨h.below.trans (hb.mono h.below.size), h.base, by rw [hb.block _ h.lt]; exact h.heap⟩
theorem rl_new (f d g e : Int) (hb : Below w.heap.size w W) : Rl w W.heap.size f d g e (W.alloc (.cells #[.int .i8 f, .int .i64 d, .int .i8 g, .int .i64 e] 26)) := ⟨hb.alloc hb.size _, hb.size, heap_alloc_new _ _⟩
theorem Rl.c0 (h : Rl w k f d g e W) : W.cell? ⟨k, 0, none⟩ = some (.int .i8 f) := by rw [cell_of_row W _ 0 _ _ _ h.heap]; rfl
theorem Rl.c1 (h : Rl w k f d g e W) : W.cell? ⟨k, 1, none⟩ = some (.int .i64 d) := by rw [cell_of_row W _ 1 _ _ _ h.heap]; rfl
theorem Rl.c2 (h : Rl w k f d g e W) : W.cell? ⟨k, 2, none⟩ = some (.int .i8 g) := by rw [cell_of_row W _ 2 _ _ _ h.heap]; rfl
theorem Rl.c3 (h : Rl w k f d g e W) : W.cell? ⟨k, 3, none⟩ = some (.int .i64 e) := by rw [cell_of_row W _ 3 _ _ _ h.heap]; rfl
theorem Rl.cs (h : Rl w k f d g e W) : W.cell? ⟨k, 0, none⟩ = some (.int .i8 f) ∧ W.cell? ⟨k, 1, none⟩ = some (.int .i64 d) ∧ W.cell? ⟨k, 2, none⟩ = some (.int .i8 g) ∧ W.cell? ⟨k, 3, none⟩ = some (.int .i64 e) := ⟨h.c0, h.c1, h.c2, h.c3⟩
theorem Rl.frozen (h : Rl w k f d g e W) (j : Nat) : W.frozen? ⟨k, j, none⟩ = false := frozen_of_row W _ j _ _ h.heap
/-- a run stored whole -/
def World.setL (W : World) (k : Nat) (f d g e : Int) : World :=
 (((W.setCell ⟨k, 0, none⟩ (.int .i8 f)).setCell ⟨k, 1, none⟩ (.int .i64 d)).setCell ⟨k, 2, none⟩ (.int .i8 g)).setCell ⟨k, 3, none⟩ (.int .i64 e)
theorem below_setL (h : Below w.heap.size w W) (hk : w.heap.size ≤ k) (f d g e : Int) : Below w.heap.size w (World.setL W k f d g e) :=
 (((h.setCell (p := ⟨k, 0, none⟩) hk _).setCell (p := ⟨k, 1, none⟩) hk _).setCell (p := ⟨k, 2, none⟩) hk _).setCell (p := ⟨k, 3, none⟩) hk _
theorem heap_setL (W : World) (k j : Nat) (f d g e : Int) (h : j ≠ k) : (World.setL W k f d g e).heap[j]? = W.heap[j]? := by
 unfold World.setL
 rw [heap_setCell_other _ _ _ _ h, heap_setCell_other _ _ _ _ h, heap_setCell_other _ _ _ _ h, heap_setCell_other _ _ _ _ h]
theorem Rl.other {j : Nat} (h : Rl w k f d g e W) (hn : ¬ k = j) (hj : w.heap.size ≤ j) (f' d' g' e' : Int) : Rl w k f d g e (World.setL W j f' d' g' e') := ⟨below_setL h.below hj f' d' g' e', h.base, by rw [heap_setL W j k f' d' g' e' hn]; exact h.heap⟩
theorem Rl.fill (h : Rl w k f d g e W) (f' d' g' e' : Int) : Rl w k f' d' g' e' (World.setL W k f' d' g' e') := by
 refine ⟨below_setL h.below h.base f' d' g' e', h.base, ?_⟩
 unfold World.setL
 rw [heap_setCell_same _ k 3 _ _ _ (heap_setCell_same _ k 2 _ _ _ (heap_setCell_same _ k 1 _ _ _ (heap_setCell_same _ k 0 _ _ _ h.heap)))]
 rfl
theorem Rl.row (h : Rl w k f d g e W) (f' d' g' e' : Int) : Rl w k f' d' g' e' (W.setRow k #[.int .i8 f', .int .i64 d', .int .i8 g', .int .i64 e']) := ⟨below_setRow h.below h.base _, h.base, setRow_heap _ _ _ _ _ _ h.heap⟩
theorem Rl.otherRow {j : Nat} (h : Rl w k f d g e W) (hn : ¬ k = j) (hj : w.heap.size ≤ j) (cs : Array Value) : Rl w k f d g e (W.setRow j cs) := ⟨below_setRow h.below hj _, h.base, by rw [setRow_other W j k cs hn]; exact h.heap⟩
theorem ERow.lt (h : ERow w k f d W) : k < W.heap.size := (Array.getElem?_eq_some_iff.1 h.heap).1
theorem ERow.ne (h : ERow w k f d W) : ¬ W.heap.size = k := by have := h.lt; omega
theorem ERow.c0 (h : ERow w k f d W) : W.cell? ⟨k, 0, none⟩ = some (.int .i8 f) := by rw [cell_of_row W _ 0 _ _ _ h.heap]; rfl
theorem ERow.c1 (h : ERow w k f d W) : W.cell? ⟨k, 1, none⟩ = some (.int .i64 d) := by rw [cell_of_row W _ 1 _ _ _ h.heap]; rfl
theorem ERow.other {j : Nat} (h : ERow w k f d W) (hn : ¬ k = j) (hj : w.heap.size ≤ j) (f' d' g' e' : Int) : ERow w k f d (World.setL W j f' d' g' e') := ⟨below_setL h.below hj f' d' g' e', h.base, by rw [heap_setL W j k f' d' g' e' hn]; exact h.heap⟩
theorem ERow.otherRow {j : Nat} (h : ERow w k f d W) (hn : ¬ k = j) (hj : w.heap.size ≤ j) (cs : Array Value) : ERow w k f d (W.setRow j cs) := ⟨below_setRow h.below hj _, h.base, by rw [setRow_other W j k cs hn]; exact h.heap⟩
theorem erow_two (w : World) (f d g e : Int) : ERow w w.heap.size f d ((w.alloc (.cells #[.int .i8 f, .int .i64 d] 24)).alloc (.cells #[.int .i8 g, .int .i64 e] 24)) ∧ ERow w (w.heap.size + 1) g e ((w.alloc (.cells #[.int .i8 f, .int .i64 d] 24)).alloc (.cells #[.int .i8 g, .int .i64 e] 24)) := by
 have h1 := erow_new f d (Below.refl w.heap.size w)
 have h2 := erow_new g e h1.below
 rw [World.size_alloc] at h2
 exact ⟨h1.step ((Below.refl (w.alloc (.cells #[.int .i8 f, .int .i64 d] 24)).heap.size _).alloc (Nat.le_refl _) _), h2⟩
end Go.Proofs.YteddfolhpoikcaaGreatDoor
