/-
  DERIVED. CONTRACT of package ends: infinities: the map is a new block; its entries lie in either order.
-/
import Derived.Test.YteddfolhpoikcaaDoorPEnDev
import Derived.Test.YteddfolhpoikcaaDoorPEnMap
namespace Go.Proofs.YteddfolhpoikcaaDoor
open Go.RowKit
set_option maxRecDepth 100000

/-- what infinities returns -/
def TbAt (w : World) (e : Ending) (w' : World) : Prop := ∃ r es, e = .returned (.map (some r)) ∧ Tb es ∧ w.heap.size ≤ r ∧ w'.heap[r]? = some (.map es 2) ∧ Below w.heap.size w w'
theorem tb_new {w w0 : World} {n : Nat} {es : Array MapEntry} (hn : w0.heap.size = n) (h : Tb es) (hB : Below w.heap.size w w0) : TbAt w (.returned (.map (some n))) (w0.alloc (.map es 2)) :=
  ⟨n, es, rfl, h, hn ▸ hB.size, by subst hn; exact heap_alloc_new _ _, hB.alloc hB.size _⟩
set_option maxHeartbeats 4000000 in
theorem infs_is (w : World) (hL : LaidEn w) :
    Calls Tryd.prog 35 #[] w (TbAt w) := by
  have HD := Kp.mk (Below.refl w.heap.size w).drew
  have m0 := hL.m0
  have m1 := hL.m1
  have g0 := hL.g0
  have g1 := hL.g1
  have n0 : ∀ o, (w.alloc o).cell? ⟨0, 0, none⟩ = some (.int .i8 (-1)) := fun o => (hL.below ((Below.refl w.heap.size w).alloc (Nat.le_refl _) o)).m0
  have n1 : ∀ o, (w.alloc o).cell? ⟨0, 1, none⟩ = some (.int .i64 0) := fun o => (hL.below ((Below.refl w.heap.size w).alloc (Nat.le_refl _) o)).m1
  have n2 : ∀ o, (w.alloc o).cell? ⟨1, 0, none⟩ = some (.int .i8 1) := fun o => (hL.below ((Below.refl w.heap.size w).alloc (Nat.le_refl _) o)).g0
  have n3 : ∀ o, (w.alloc o).cell? ⟨1, 1, none⟩ = some (.int .i64 0) := fun o => (hL.below ((Below.refl w.heap.size w).alloc (Nat.le_refl _) o)).g1
  obtain ⟨l0, hl0⟩ := key_any (f := -1) (d := 0) (by decide) (by decide) (by decide) (by decide)
  obtain ⟨l1, hl1⟩ := key_any (f := 1) (d := 0) (by decide) (by decide) (by decide) (by decide)
  have i0 : ∀ v : World, (Instr.mapUpdate 60 (.map (some v.heap.size)) (kEnd (-1) 0) vMin).run Tryd.prog (v.alloc (.map #[] 0)).drew = .ok () (v.alloc (.map #[eMin 0] 1)).drew := fun v => ins_new v.drew rfl hl0 (by simp)
  have i1 : ∀ v : World, (Instr.mapUpdate 60 (.map (some v.heap.size)) (kEnd 1 0) vMax).run Tryd.prog (v.alloc (.map #[] 0)).drew = .ok () (v.alloc (.map #[eMax 0] 1)).drew := fun v => ins_new v.drew rfl hl1 (by simp)
  have i2 : ∀ v : World, (Instr.mapUpdate 60 (.map (some v.heap.size)) (kEnd 1 0) vMax).run Tryd.prog (v.alloc (.map #[eMin 0] 1)).drew = .ok () (v.alloc (.map #[eMin 0, eMax 1] 2)).drew := fun v => ins_new v.drew rfl hl1 (by intro e he; simp at he; subst he; exact ⟨⟨_, hl0⟩, by simp⟩)
  have i3 : ∀ v : World, (Instr.mapUpdate 60 (.map (some v.heap.size)) (kEnd (-1) 0) vMin).run Tryd.prog (v.alloc (.map #[eMax 0] 1)).drew = .ok () (v.alloc (.map #[eMax 0, eMin 1] 2)).drew := fun v => ins_new v.drew rfl hl0 (by intro e he; simp at he; subst he; exact ⟨⟨_, hl1⟩, by simp⟩)
  have hmm := @run_makeMap Tryd.prog
  clear hL hl0 hl1
  go_enter Tryd.func35, Tryd.ntmps35
  go_wp2_with fail
  go_region
  · go_wp2_with fail
    go_ret
    exact tb_new (w0 := w.drew) rfl (.inl rfl) HD.out
  · go_wp2_with fail
    go_ret
    exact tb_new (w0 := w.drew) rfl (.inr rfl) HD.out
end Go.Proofs.YteddfolhpoikcaaDoor
