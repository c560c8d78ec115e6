/-
  DERIVED. ARRAYS OF NUMBERS, held by value and in memory: n numbers, as a function of their index says.
-/
import Derived.Test.YtbnlomjlapnoaaaDoorKp
import Derived.Laws.RangeAny
import Derived.Laws.CopyOwn
import Derived.Laws.Externs
namespace Go.Proofs.YtbnlomjlapnoaaaDoor
open Go.RowKit

/-- n numbers as the model holds them -/
def cln (n : Nat) (f : Nat → Int) : Array Value := ((List.range n).map fun k => Value.int .i64 (f k)).toArray
theorem cln_size (n : Nat) (f : Nat → Int) : (cln n f).size = n := by unfold cln; simp
theorem cln_get {n : Nat} {f : Nat → Int} {k : Nat} (h : k < n) : (cln n f)[k]? = some (.int .i64 (f k)) := by
  unfold cln
  rw [List.getElem?_toArray, List.getElem?_map, List.getElem?_range h]; rfl
theorem cln_congr {n : Nat} {f g : Nat → Int} (h : ∀ k, k < n → f k = g k) : cln n f = cln n g := by
  unfold cln
  congr 1
  apply List.map_congr_left
  intro k hk
  rw [h k (List.mem_range.1 hk)]
theorem cln_set {n : Nat} {f : Nat → Int} {i : Nat} {v : Int} (h : i < n) : (cln n f).setIfInBounds i (.int .i64 v) = cln n (fun k => if k = i then v else f k) := by
  apply Array.ext_getElem?
  intro k
  rw [Array.getElem?_setIfInBounds]
  by_cases hk : k < n
  · rw [cln_get hk]
    by_cases e : i = k
    · subst e; rw [if_pos rfl, if_pos (by rw [cln_size]; exact h), cln_get h, if_pos rfl]
    · rw [if_neg e, cln_get hk, if_neg (fun x => e x.symm)]
  · have h1 : (cln n fun k => if k = i then v else f k)[k]? = none := by rw [Array.getElem?_eq_none_iff, cln_size]; omega
    rw [h1]
    by_cases e : i = k
    · omega
    · rw [if_neg e, Array.getElem?_eq_none_iff, cln_size]; omega
theorem cln_one (n : Nat) (f : Nat → Int) : (cln n f).all (·.oneCell') = true := by
  unfold cln
  rw [List.all_toArray]
  rw [List.all_map, List.all_eq_true]
  intro k _; rfl
theorem wpList_store_row' {P : Program} {ops : Array Oper} {rest : List Oper} {o : Oper} {a : Act} {w : World} {Q : Exit → Act → World → Prop} (hgd : o.guard = none) (ty : TypeId) (x y : Operand) (ho : o.op = .store ty x y)
    (g : Nat) (cells : Array Value) (hx : a.eval x = .pointer (some ⟨g, 0, none⟩)) (hy : a.eval y = .agg cells)
    (t : TypeId) (old : Array Value) (hg : w.heap[g]? = some (.cells old t (0, 0))) (hi : (P.info? ty).map (·.size) = some cells.size)
    (hold : old.size = cells.size) (h1 : cells.all (·.oneCell') = true)
    (h : wpList P ops Q rest (a.put o.dst undef) (w.setRow g cells)) : wpList P ops Q (o :: rest) a w :=
  wpList_plain hgd fun _ hK => wp_store_row ty x y ho g cells hx hy t old hg hi hold h1 (hK _ _ h)
/-- block g holds these numbers -/
structure Row (W : World) (g : Nat) (t : TypeId) (n : Nat) (f : Nat → Int) : Prop where
  heap : W.heap[g]? = some (.cells (cln n f) t (0, 0))
variable {W W' : World} {g : Nat} {t : TypeId} {n : Nat} {f : Nat → Int}
theorem Row.lt (h : Row W g t n f) : g < W.heap.size := (Array.getElem?_eq_some_iff.1 h.heap).1
theorem Row.cell (h : Row W g t n f) {k : Nat} (hk : k < n) : W.cell? ⟨g, k, none⟩ = some (.int .i64 (f k)) := by
  rw [cell_of_row W g k _ t _ h.heap, cln_get hk]
theorem Row.frozen (h : Row W g t n f) (k : Nat) : W.frozen? ⟨g, k, none⟩ = false := frozen_of_row W g k _ t h.heap
theorem Row.step (h : Row W g t n f) (hb : Below W.heap.size W W') : Row W' g t n f := ⟨by rw [hb.block g h.lt]; exact h.heap⟩
theorem Row.congr (h : Row W g t n f) {f' : Nat → Int} (e : ∀ k, k < n → f k = f' k) : Row W g t n f' := ⟨by rw [h.heap, cln_congr e]⟩
theorem Row.set (h : Row W g t n f) {i : Nat} (hi : i < n) (v : Int) : Row (W.setCell ⟨g, i, none⟩ (.int .i64 v)) g t n (fun k => if k = i then v else f k) :=
  ⟨by rw [heap_setCell_same W g i _ t _ h.heap, cln_set hi]⟩
theorem Row.other (h : Row W g t n f) (a : Addr) (v : Value) (hne : g ≠ a.block) : Row (W.setCell a v) g t n f :=
  ⟨by rw [heap_setCell_other W a g v hne]; exact h.heap⟩
theorem Row.setRow (h : Row W g t n f) (f' : Nat → Int) : Row (W.setRow g (cln n f')) g t n f' := ⟨setRow_heap W g _ _ t _ h.heap⟩
theorem Row.otherRow (h : Row W g t n f) (k : Nat) (cs : Array Value) (hne : g ≠ k) : Row (W.setRow k cs) g t n f := ⟨by rw [setRow_other W k g cs hne]; exact h.heap⟩
theorem row_new (W : World) (n : Nat) (f : Nat → Int) (t : TypeId) : Row (W.alloc (.cells (cln n f) t)) W.heap.size t n f := ⟨by show (W.heap.push _)[W.heap.size]? = _; simp⟩
theorem below_set {w : World} (h : Below w.heap.size w W) (hg : w.heap.size ≤ g) (i : Nat) (v : Value) : Below w.heap.size w (W.setCell ⟨g, i, none⟩ v) := h.setCell hg v
/-- a[i] of an array of numbers held by value -/
theorem index_cln {P : Program} {t e : TypeId} {n : Nat} {f : Nat → Int} {k : Nat} (hu : P.underlying t = some (.array n e)) (hue : P.underlying e = some (.int .i64)) (hi : (P.info? e).map (·.size) = some 1) (hk : k < n) (w : World) :
    (Instr.index t (.agg (cln n f)) (.int .i64 (k : Int))).run P w = .ok (.int .i64 (f k)) w := by
  have h1 : (0 : Int) ≤ k ∧ (k : Int) < n := by omega
  have hsz : (sizeOf e).run P w = .ok 1 w := by
    cases hq : P.info? e with
    | none => simp [hq] at hi
    | some i =>
      have hs : i.size = 1 := by simpa [hq] using hi
      simp [sizeOf, typeInfo, hq, hs]
  have hagg : (isAgg e).run P w = .ok false w := by
    unfold isAgg
    rw [Sem.run_bind, run_underlying hue w]
    rfl
  simp [Instr.index, run_underlying hu, asIntOf, h1, hsz, part, hagg, cln_get hk, go_sem]
  intro h; omega
end Go.Proofs.YtbnlomjlapnoaaaDoor
