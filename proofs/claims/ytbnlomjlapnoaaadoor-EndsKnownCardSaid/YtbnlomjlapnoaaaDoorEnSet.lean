/-
  DERIVED. An end stored whole into a block of the walk's own. (For the law EndsOrder's region of two stores.)
-/
import Derived.Test.YtbnlomjlapnoaaaDoorEnRef
namespace Go.Proofs.YtbnlomjlapnoaaaDoor
open Go.RowKit

theorem addr_neE {p q : Addr} (h : ¬ (p.block = q.block ∧ p.off = q.off)) : p ≠ q := fun e => h (by rw [e]; exact ⟨rfl, rfl⟩)
/-- an end's block that may be written -/
structure Ew (w : World) (g : Nat) (f d : Int) (W : World) : Prop extends Eb w g f d W where
  f0 : W.frozen? ⟨g, 0, none⟩ = false
  f1 : W.frozen? ⟨g, 1, none⟩ = false
theorem Ew.step {w W W' : World} {g : Nat} {f d : Int} (h : Ew w g f d W) (hb : Below W.heap.size W W') : Ew w g f d W' :=
  ⟨h.toEb.step hb, by rw [hb.frozen (p := ⟨g, 0, none⟩) h.size]; exact h.f0, by rw [hb.frozen (p := ⟨g, 1, none⟩) h.size]; exact h.f1⟩
theorem ew_new {w W : World} (f d : Int) (t : TypeId) (hb : Below w.heap.size w W) : Ew w W.heap.size f d (W.alloc (.cells #[.int .i8 f, .int .i64 d] t)) :=
  ⟨eb_new f d t hb, by simp [go_sem], by simp [go_sem]⟩
/-- an end stored whole -/
def World.set2 (W : World) (g : Nat) (a b : Int) : World := (W.setCell ⟨g, 0, none⟩ (.int .i8 a)).setCell ⟨g, 1, none⟩ (.int .i64 b)
theorem below_set2 {w W : World} {g : Nat} (h : Below w.heap.size w W) (hg : w.heap.size ≤ g) (a b : Int) : Below w.heap.size w (World.set2 W g a b) :=
  (h.setCell (p := ⟨g, 0, none⟩) hg _).setCell (p := ⟨g, 1, none⟩) hg _
theorem size_set2 (W : World) (g : Nat) (a b : Int) : (World.set2 W g a b).heap.size = W.heap.size := by simp [World.set2, World.setCell]
theorem frozen_set2 (W : World) (g : Nat) (a b : Int) (p : Addr) : (World.set2 W g a b).frozen? p = W.frozen? p := by unfold World.set2; rw [World.frozen?_setCell, World.frozen?_setCell]
theorem cell_set2 (W : World) {g k : Nat} (a b : Int) (j : Nat) (h : ¬ k = g) : (World.set2 W g a b).cell? ⟨k, j, none⟩ = W.cell? ⟨k, j, none⟩ := by
  unfold World.set2
  rw [World.cell?_setCell_other _ _ _ _ (addr_neE (fun e => h e.1.symm)), World.cell?_setCell_other _ _ _ _ (addr_neE (fun e => h e.1.symm))]
theorem Ew.set {w W : World} {g : Nat} {f d : Int} (h : Ew w g f d W) (hg : w.heap.size ≤ g) (a b : Int) : Ew w g a b (World.set2 W g a b) := by
  refine ⟨⟨below_set2 h.below hg a b, by rw [size_set2]; exact h.size, ?_, ?_⟩, by rw [frozen_set2]; exact h.f0, by rw [frozen_set2]; exact h.f1⟩ <;> unfold World.set2
  · rw [World.cell?_setCell_other _ _ _ _ (addr_neE (by simp)), World.cell?_setCell_same _ _ _ h.c0]
  · rw [World.cell?_setCell_same _ _ _ (u := .int .i64 d) (by rw [World.cell?_setCell_other _ _ _ _ (addr_neE (by simp))]; exact h.c1)]
theorem Eb.other {w W : World} {g k : Nat} {f d : Int} (h : Eb w g f d W) (hk : ¬ g = k) (hg : w.heap.size ≤ k) (a b : Int) : Eb w g f d (World.set2 W k a b) :=
  ⟨below_set2 h.below hg a b, by rw [size_set2]; exact h.size, by rw [cell_set2 W a b 0 hk]; exact h.c0, by rw [cell_set2 W a b 1 hk]; exact h.c1⟩
theorem Ew.other {w W : World} {g k : Nat} {f d : Int} (h : Ew w g f d W) (hk : ¬ g = k) (hg : w.heap.size ≤ k) (a b : Int) : Ew w g f d (World.set2 W k a b) :=
  ⟨h.toEb.other hk hg a b, by rw [frozen_set2]; exact h.f0, by rw [frozen_set2]; exact h.f1⟩
end Go.Proofs.YtbnlomjlapnoaaaDoor
