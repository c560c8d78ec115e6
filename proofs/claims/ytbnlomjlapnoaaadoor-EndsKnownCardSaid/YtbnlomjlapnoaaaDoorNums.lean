/-
  DERIVED. Rows of numbers that a walk has laid, as every world behind them has them.
-/
import Derived.Test.YtbnlomjlapnoaaaDoorKp
namespace Go.Proofs.YtbnlomjlapnoaaaDoor
open Go.RowKit

/-- rows of numbers at blocks, as every world of a loop has them -/
structure Nums (w : World) (g : Nat) (l : List Int) (W : World) : Prop where
  below : Below w.heap.size w W
  size : g < W.heap.size
  ints : ∀ i, i < l.length → W.cell? ⟨g, i, none⟩ = some (.int .i64 (l.getD i 0))
theorem Nums.step {w W W' : World} {g : Nat} {l : List Int} (h : Nums w g l W) (hb : Below W.heap.size W W') : Nums w g l W' :=
  ⟨h.below.trans (hb.mono h.below.size), by have := hb.size; have := h.size; omega, fun i hi => by rw [hb.cell (p := ⟨g, i, none⟩) h.size]; exact h.ints i hi⟩
theorem nums_new {w W : World} (l : List Int) (t : TypeId) (hb : Below w.heap.size w W) : Nums w W.heap.size l (W.alloc (.cells (l.map fun x => Value.int .i64 x).toArray t)) :=
  ⟨hb.alloc hb.size _, by simp, fun i hi => by
    rw [World.cell?_alloc_new, List.getElem?_toArray, List.getElem?_map, List.getD_eq_getElem?_getD, List.getElem?_eq_getElem hi]; rfl⟩
structure Bl (w W : World) : Prop where
  below : Below w.heap.size w W
theorem Bl.step {w W W' : World} (h : Bl w W) (hb : Below W.heap.size W W') : Bl w W' := ⟨h.below.trans (hb.mono h.below.size)⟩
end Go.Proofs.YtbnlomjlapnoaaaDoor
