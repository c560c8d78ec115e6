/-
 DERIVED. New runs of a walk's own, behind two ends (for the first statements of lives, whose order is drawn).
-/
import Derived.Test.YteddfolhpoikcaaGreatDoorPRnLit
namespace Go.Proofs.YteddfolhpoikcaaGreatDoor
open Go.RowKit
set_option maxRecDepth 100000

/-- the two ends, and the runs that have been made so far, the last one first -/
structure Tl (w : World) (l : List (Nat × Rn)) (W : World) : Prop where
 bl : Bl w W
 hl : ERow w w.heap.size (-1) 0 W
 hh : ERow w (w.heap.size + 1) 1 0 W
 ro : ∀ x, x ∈ l → Rl w x.1 x.2.f x.2.d x.2.g x.2.e W ∧ w.heap.size + 1 < x.1
 nd : l.Pairwise fun x y => ¬ x.1 = y.1
variable {w W W' : World} {l pre post : List (Nat × Rn)} {k : Nat} {r : Rn}
theorem Tl.below (h : Tl w l W) : Below w.heap.size w W := h.bl.below
theorem Tl.step (h : Tl w l W) (hb : Below W.heap.size W W') : Tl w l W' := ⟨h.bl.step hb, h.hl.step hb, h.hh.step hb, fun x hx => ⟨(h.ro x hx).1.step hb, (h.ro x hx).2⟩, h.nd⟩
theorem Tl.s (h : Tl w l W) : W.cell? ⟨w.heap.size, 0, none⟩ = some (.int .i8 (-1)) ∧ W.cell? ⟨w.heap.size, 1, none⟩ = some (.int .i64 0) := ⟨h.hl.c0, h.hl.c1⟩
theorem Tl.more (h : Tl w l W) : Tl w ((W.heap.size, zeroR) :: l) (W.alloc (.cells #[.int .i8 0, .int .i64 0, .int .i8 0, .int .i64 0] 26)) := by
 have hb := (Below.refl W.heap.size W).alloc (Nat.le_refl _) (.cells #[.int .i8 0, .int .i64 0, .int .i8 0, .int .i64 0] 26)
 have h2 := h.step hb
 refine ⟨h2.bl, h2.hl, h2.hh, fun x hx => ?_, List.pairwise_cons.2 ⟨fun y hy => fun q => ?_, h.nd⟩⟩
 ·rcases List.mem_cons.1 hx with rfl | hx
  ·exact ⟨rl_new 0 0 0 0 h.below, by have := h.hh.lt; exact this⟩
  ·exact h2.ro x hx
 ·have := (h.ro y hy).1.lt; simp only at q; omega
theorem Tl.z (h : Tl w l W) (hm : (k, zeroR) ∈ l) : W.cell? ⟨k, 0, none⟩ = some (.int .i8 0) ∧ W.cell? ⟨k, 1, none⟩ = some (.int .i64 0) ∧ W.cell? ⟨k, 2, none⟩ = some (.int .i8 0) ∧ W.cell? ⟨k, 3, none⟩ = some (.int .i64 0) ∧
 W.frozen? ⟨k, 0, none⟩ = false ∧ W.frozen? ⟨k, 1, none⟩ = false ∧ W.frozen? ⟨k, 2, none⟩ = false ∧ W.frozen? ⟨k, 3, none⟩ = false := by
 have h2 := (h.ro _ hm).1
 exact ⟨h2.c0, h2.c1, h2.c2, h2.c3, h2.frozen 0, h2.frozen 1, h2.frozen 2, h2.frozen 3⟩
theorem Tl.fill (h : Tl w (pre ++ (k, r) :: post) W) (f d g e : Int) : Tl w (pre ++ (k, ⟨f, d, g, e⟩) :: post) (World.setL W k f d g e) := by
 have hg := h.ro (k, r) (by simp)
 have hn := List.pairwise_append.1 h.nd
 have hc := List.pairwise_cons.1 hn.2.1
 have hs := hg.2
 simp only at hs hg
 refine ⟨⟨below_setL h.below hg.1.base f d g e⟩, h.hl.other (by omega) hg.1.base f d g e, h.hh.other (by omega) hg.1.base f d g e, fun x hx => ?_, ?_⟩
 ·rcases List.mem_append.1 hx with hx | hx
  ·have h3 := h.ro x (List.mem_append.2 (.inl hx))
   exact ⟨h3.1.other (hn.2.2 x hx (k, r) (by simp)) hg.1.base f d g e, h3.2⟩
  ·rcases List.mem_cons.1 hx with rfl | hx
   ·exact ⟨hg.1.fill f d g e, hs⟩
   ·have h3 := h.ro x (List.mem_append.2 (.inr (List.mem_cons.2 (.inr hx))))
    exact ⟨h3.1.other (fun q => hc.1 x hx q.symm) hg.1.base f d g e, h3.2⟩
 ·refine List.pairwise_append.2 ⟨hn.1, List.pairwise_cons.2 ⟨hc.1, hc.2⟩, fun x hx y hy => ?_⟩
  rcases List.mem_cons.1 hy with rfl | hy
  ·exact hn.2.2 x hx (k, r) (by simp)
  ·exact hn.2.2 x hx y (List.mem_cons.2 (.inr hy))
end Go.Proofs.YteddfolhpoikcaaGreatDoor
