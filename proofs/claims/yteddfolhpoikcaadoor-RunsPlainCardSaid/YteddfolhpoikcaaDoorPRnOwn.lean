/-
  DERIVED. A run's own block, made zero and stored whole (for regions that draw their order).
-/
import Derived.Test.YteddfolhpoikcaaDoorPRg
namespace Go.Proofs.YteddfolhpoikcaaDoor
open Go.RowKit
set_option maxRecDepth 100000

/-- a block of the walk's own that holds a run -/
structure Ro (w : World) (g : Nat) (r : Rn) (W : World) : Prop where
  below : Below w.heap.size w W
  base : w.heap.size ≤ g
  heap : W.heap[g]? = some (.cells #[.int .i8 r.f, .int .i64 r.d, .int .i8 r.g, .int .i64 r.e] 51 (0, 0))
variable {w W W' : World} {g : Nat} {r : Rn}
theorem Ro.lt (h : Ro w g r W) : g < W.heap.size := (Array.getElem?_eq_some_iff.1 h.heap).1
theorem Ro.ne (h : Ro w g r W) : ¬ W.heap.size = g := by have := h.lt; omega
theorem Ro.step (h : Ro w g r W) (hb : Below W.heap.size W W') : Ro w g r W' := ⟨h.below.trans (hb.mono h.below.size), h.base, by rw [hb.block _ h.lt]; exact h.heap⟩
theorem ro_new (hb : Below w.heap.size w W) : Ro w W.heap.size zeroR (W.alloc (.cells #[.int .i8 0, .int .i64 0, .int .i8 0, .int .i64 0] 51)) := ⟨hb.alloc hb.size _, hb.size, heap_alloc_new _ _⟩
theorem Ro.c0 (h : Ro w g r W) : W.cell? ⟨g, 0, none⟩ = some (.int .i8 r.f) := by rw [cell_of_row W _ 0 _ _ _ h.heap]; rfl
theorem Ro.c1 (h : Ro w g r W) : W.cell? ⟨g, 1, none⟩ = some (.int .i64 r.d) := by rw [cell_of_row W _ 1 _ _ _ h.heap]; rfl
theorem Ro.c2 (h : Ro w g r W) : W.cell? ⟨g, 2, none⟩ = some (.int .i8 r.g) := by rw [cell_of_row W _ 2 _ _ _ h.heap]; rfl
theorem Ro.c3 (h : Ro w g r W) : W.cell? ⟨g, 3, none⟩ = some (.int .i64 r.e) := by rw [cell_of_row W _ 3 _ _ _ h.heap]; rfl
theorem Ro.frozen (h : Ro w g r W) (j : Nat) : W.frozen? ⟨g, j, none⟩ = false := frozen_of_row W _ j _ _ h.heap
theorem Ro.rg (h : Ro w g r W) : Rg w g r W := ⟨h.below, h.lt, h.c0, h.c1, h.c2, h.c3⟩
/-- a run stored whole -/
def World.setR (W : World) (g : Nat) (v : Rn) : World :=
  (((W.setCell ⟨g, 0, none⟩ (.int .i8 v.f)).setCell ⟨g, 1, none⟩ (.int .i64 v.d)).setCell ⟨g, 2, none⟩ (.int .i8 v.g)).setCell ⟨g, 3, none⟩ (.int .i64 v.e)
theorem below_setR (h : Below w.heap.size w W) (hg : w.heap.size ≤ g) (v : Rn) : Below w.heap.size w (World.setR W g v) :=
  (((h.setCell (p := ⟨g, 0, none⟩) hg _).setCell (p := ⟨g, 1, none⟩) hg _).setCell (p := ⟨g, 2, none⟩) hg _).setCell (p := ⟨g, 3, none⟩) hg _
theorem heap_setR (W : World) (g k : Nat) (v : Rn) (h : k ≠ g) : (World.setR W g v).heap[k]? = W.heap[k]? := by
  unfold World.setR
  rw [heap_setCell_other _ _ _ _ h, heap_setCell_other _ _ _ _ h, heap_setCell_other _ _ _ _ h, heap_setCell_other _ _ _ _ h]
theorem size_setR (W : World) (g : Nat) (v : Rn) : (World.setR W g v).heap.size = W.heap.size := by simp [World.setR, World.setCell]
theorem cell_setR (W : World) (g k j : Nat) (v : Rn) (h : k ≠ g) : (World.setR W g v).cell? ⟨k, j, none⟩ = W.cell? ⟨k, j, none⟩ := by
  have hn : ∀ i : Nat, (⟨g, i, none⟩ : Addr) ≠ ⟨k, j, none⟩ := fun i q => h (by have := congrArg Addr.block q; exact this.symm)
  unfold World.setR
  rw [World.cell?_setCell_other _ _ _ _ (hn _), World.cell?_setCell_other _ _ _ _ (hn _), World.cell?_setCell_other _ _ _ _ (hn _), World.cell?_setCell_other _ _ _ _ (hn _)]
theorem Ro.other {k : Nat} (h : Ro w g r W) (hn : ¬ g = k) (hk : w.heap.size ≤ k) (v : Rn) : Ro w g r (World.setR W k v) := ⟨below_setR h.below hk v, h.base, by rw [heap_setR W k g v hn]; exact h.heap⟩
theorem Ro.fill (h : Ro w g r W) (v : Rn) : Ro w g v (World.setR W g v) := by
  refine ⟨below_setR h.below h.base v, h.base, ?_⟩
  unfold World.setR
  rw [heap_setCell_same _ g 3 _ _ _ (heap_setCell_same _ g 2 _ _ _ (heap_setCell_same _ g 1 _ _ _ (heap_setCell_same _ g 0 _ _ _ h.heap)))]
  rfl
end Go.Proofs.YteddfolhpoikcaaDoor
