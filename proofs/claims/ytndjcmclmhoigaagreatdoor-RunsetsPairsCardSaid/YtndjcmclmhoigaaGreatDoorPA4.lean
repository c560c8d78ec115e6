/-
 DERIVED. Blocks of a call that puts a run together from two.
 DERIVED. A run's own block, made zero and stored whole (for regions that draw their order).
 DERIVED. Ends in a row, as every world of a walk has them.
 DERIVED. A row of runs of a walk's own, that grows run by run. (For the law RunsKnown.)
 DERIVED. A list of runs that grows in memory of a walk's own (Ag), beside a run in a block that is stored anew, and a list that is read (Lq). (For the reference's put, less, Of ..)
-/
import Derived.Test.YtndjcmclmhoigaaGreatDoorPA3
import Derived.Test.YtndjcmclmhoigaaGreatDoorPA2
import Derived.OwnWalk
import Derived.Carry
import Derived.Test.YtndjcmclmhoigaaGreatDoorPRsRef
namespace Go.Proofs.YtndjcmclmhoigaaGreatDoor
open Go.RowKit
set_option maxRecDepth 100000

theorem infoRn : (Tryz.prog.info? 26).map (·.size) = some 4 := by kernel_rfl
theorem four_rn (f d g e : Int) : (#[Value.int .i8 f, .int .i64 d, .int .i8 g, .int .i64 e] : Array Value).all (·.oneCell') = true := by simp [Value.oneCell']
/-- a call's own blocks, where a run is put together from two: the second run, the result's block, the run's -/
structure Jn (w : World) (b : Rn) (f d g e : Int) (W : World) : Prop where
 below : Below w.heap.size w W
 b : Rg w (w.heap.size + 1) b W
 z : W.heap[w.heap.size + 1 + 1]? = some (.cells #[.int .i8 0, .int .i64 0, .int .i8 0, .int .i64 0] 26 (0, 0))
 r : W.heap[w.heap.size + 1 + 1 + 1]? = some (.cells #[.int .i8 f, .int .i64 d, .int .i8 g, .int .i64 e] 26 (0, 0))
variable {w W W' : World} {b : Rn} {f d g e : Int}
theorem Jn.step (h : Jn w b f d g e W) (hb : Below W.heap.size W W') : Jn w b f d g e W' :=
 ⟨h.below.trans (hb.mono h.below.size), h.b.step hb, by rw [hb.block _ (Array.getElem?_eq_some_iff.1 h.z).1]; exact h.z, by rw [hb.block _ (Array.getElem?_eq_some_iff.1 h.r).1]; exact h.r⟩
theorem Jn.set (h : Jn w b f d g e W) (j : Nat) (v : Value) {f' d' g' e' : Int} (he : (#[.int .i8 f, .int .i64 d, .int .i8 g, .int .i64 e] : Array Value).setIfInBounds j v = #[.int .i8 f', .int .i64 d', .int .i8 g', .int .i64 e']) : Jn w b f' d' g' e' (W.setCell ⟨w.heap.size + 1 + 1 + 1, j, none⟩ v) := by
 have hn : ∀ (k i : Nat), ¬ k = w.heap.size + 1 + 1 + 1 → (W.setCell ⟨w.heap.size + 1 + 1 + 1, j, none⟩ v).cell? ⟨k, i, none⟩ = W.cell? ⟨k, i, none⟩ := fun k i hk => by
  rw [World.cell?_setCell_other _ _ _ _ (fun q => hk (by have := congrArg Addr.block q; simp at this; omega))]
 have hs : w.heap.size + 1 < (W.setCell ⟨w.heap.size + 1 + 1 + 1, j, none⟩ v).heap.size := by have := h.b.size; simp [World.setCell]; omega
 refine ⟨h.below.setCell (p := ⟨w.heap.size + 1 + 1 + 1, j, none⟩) (by show w.heap.size ≤ w.heap.size + 1 + 1 + 1; omega) v, ⟨h.below.setCell (p := ⟨w.heap.size + 1 + 1 + 1, j, none⟩) (by show w.heap.size ≤ w.heap.size + 1 + 1 + 1; omega) v, hs, ?_, ?_, ?_, ?_⟩, ?_, ?_⟩
 ·rw [hn _ _ (by omega)]; exact h.b.c0
 ·rw [hn _ _ (by omega)]; exact h.b.c1
 ·rw [hn _ _ (by omega)]; exact h.b.c2
 ·rw [hn _ _ (by omega)]; exact h.b.c3
 ·rw [heap_setCell_other W _ _ v (by show w.heap.size + 1 + 1 ≠ w.heap.size + 1 + 1 + 1; omega)]; exact h.z
 ·rw [heap_setCell_same W _ j _ _ v h.r, he]
theorem Jn.lo (h : Jn w b f d g e W) (x y : Int) : Jn w b x y g e ((W.setCell ⟨w.heap.size + 1 + 1 + 1, 0, none⟩ (.int .i8 x)).setCell ⟨w.heap.size + 1 + 1 + 1, 1, none⟩ (.int .i64 y)) :=
 (h.set 0 (.int .i8 x) (f' := x) (d' := d) (g' := g) (e' := e) rfl).set 1 (.int .i64 y) rfl
theorem Jn.hi (h : Jn w b f d g e W) (x y : Int) : Jn w b f d x y ((W.setCell ⟨w.heap.size + 1 + 1 + 1, 2, none⟩ (.int .i8 x)).setCell ⟨w.heap.size + 1 + 1 + 1, 3, none⟩ (.int .i64 y)) :=
 (h.set 2 (.int .i8 x) (f' := f) (d' := d) (g' := x) (e' := e) rfl).set 3 (.int .i64 y) rfl
theorem Jn.cells (h : Jn w b f d g e W) : W.cell? ⟨w.heap.size + 1 + 1 + 1, 0, none⟩ = some (.int .i8 f) ∧ W.cell? ⟨w.heap.size + 1 + 1 + 1, 1, none⟩ = some (.int .i64 d) ∧ W.cell? ⟨w.heap.size + 1 + 1 + 1, 2, none⟩ = some (.int .i8 g) ∧ W.cell? ⟨w.heap.size + 1 + 1 + 1, 3, none⟩ = some (.int .i64 e) :=
 ⟨by rw [cell_of_row W _ 0 _ _ _ h.r]; rfl, by rw [cell_of_row W _ 1 _ _ _ h.r]; rfl, by rw [cell_of_row W _ 2 _ _ _ h.r]; rfl, by rw [cell_of_row W _ 3 _ _ _ h.r]; rfl⟩
theorem Jn.frozen (h : Jn w b f d g e W) (j : Nat) : W.frozen? ⟨w.heap.size + 1 + 1 + 1, j, none⟩ = false := frozen_of_row W _ j _ _ h.r
theorem jn_new (w : World) (a b : Rn) : Jn w b a.f a.d a.g a.e ((((w.alloc (.cells #[.int .i8 a.f, .int .i64 a.d, .int .i8 a.g, .int .i64 a.e] 26)).alloc (.cells #[.int .i8 b.f, .int .i64 b.d, .int .i8 b.g, .int .i64 b.e] 26)).alloc (.cells #[.int .i8 0, .int .i64 0, .int .i8 0, .int .i64 0] 26)).alloc (.cells #[.int .i8 a.f, .int .i64 a.d, .int .i8 a.g, .int .i64 a.e] 26)) := by
 have h2 := (rg_two w a b).2
 have s2 : ((w.alloc (.cells #[.int .i8 a.f, .int .i64 a.d, .int .i8 a.g, .int .i64 a.e] 26)).alloc (.cells #[.int .i8 b.f, .int .i64 b.d, .int .i8 b.g, .int .i64 b.e] 26)).heap.size = w.heap.size + 1 + 1 := by simp
 generalize (w.alloc (.cells #[.int .i8 a.f, .int .i64 a.d, .int .i8 a.g, .int .i64 a.e] 26)).alloc (.cells #[.int .i8 b.f, .int .i64 b.d, .int .i8 b.g, .int .i64 b.e] 26) = u at *
 have b1 := (Below.refl u.heap.size u).alloc (Nat.le_refl _) (.cells #[.int .i8 0, .int .i64 0, .int .i8 0, .int .i64 0] 26)
 have b2 := b1.alloc (by simp) (.cells #[.int .i8 a.f, .int .i64 a.d, .int .i8 a.g, .int .i64 a.e] 26)
 have e1 : (u.alloc (.cells #[.int .i8 0, .int .i64 0, .int .i8 0, .int .i64 0] 26)).heap[w.heap.size + 1 + 1]? = some (.cells #[.int .i8 0, .int .i64 0, .int .i8 0, .int .i64 0] 26 (0, 0)) := by rw [← s2]; exact heap_alloc_new _ _
 have s3 : (u.alloc (.cells #[.int .i8 0, .int .i64 0, .int .i8 0, .int .i64 0] 26)).heap.size = w.heap.size + 1 + 1 + 1 := by simp [s2]
 refine ⟨h2.below.trans (b2.mono h2.below.size), h2.step b2, ?_, ?_⟩
 ·generalize u.alloc (.cells #[.int .i8 0, .int .i64 0, .int .i8 0, .int .i64 0] 26) = v at *
  rw [((Below.refl v.heap.size v).alloc (Nat.le_refl _) (.cells #[.int .i8 a.f, .int .i64 a.d, .int .i8 a.g, .int .i64 a.e] 26)).block _ (by omega)]; exact e1
 ·generalize u.alloc (.cells #[.int .i8 0, .int .i64 0, .int .i8 0, .int .i64 0] 26) = v at *
  rw [← s3]; exact heap_alloc_new _ _
end Go.Proofs.YtndjcmclmhoigaaGreatDoor
namespace Go.Proofs.YtndjcmclmhoigaaGreatDoor
open Go.RowKit
set_option maxRecDepth 100000

/-- a block of the walk's own that holds a run -/
structure Ro (w : World) (g : Nat) (r : Rn) (W : World) : Prop where
 below : Below w.heap.size w W
 base : w.heap.size ≤ g
 heap : W.heap[g]? = some (.cells #[.int .i8 r.f, .int .i64 r.d, .int .i8 r.g, .int .i64 r.e] 26 (0, 0))
variable {w W W' : World} {g : Nat} {r : Rn}
theorem Ro.lt (h : Ro w g r W) : g < W.heap.size := (Array.getElem?_eq_some_iff.1 h.heap).1
theorem Ro.ne (h : Ro w g r W) : ¬ W.heap.size = g := by have := h.lt; omega
theorem Ro.step (h : Ro w g r W) (hb : Below W.heap.size W W') : Ro w g r W' := ⟨h.below.trans (hb.mono h.below.size), h.base, by rw [hb.block _ h.lt]; exact h.heap⟩
theorem Ro.c0 (h : Ro w g r W) : W.cell? ⟨g, 0, none⟩ = some (.int .i8 r.f) := by rw [cell_of_row W _ 0 _ _ _ h.heap]; rfl
theorem Ro.c1 (h : Ro w g r W) : W.cell? ⟨g, 1, none⟩ = some (.int .i64 r.d) := by rw [cell_of_row W _ 1 _ _ _ h.heap]; rfl
theorem Ro.c2 (h : Ro w g r W) : W.cell? ⟨g, 2, none⟩ = some (.int .i8 r.g) := by rw [cell_of_row W _ 2 _ _ _ h.heap]; rfl
theorem Ro.c3 (h : Ro w g r W) : W.cell? ⟨g, 3, none⟩ = some (.int .i64 r.e) := by rw [cell_of_row W _ 3 _ _ _ h.heap]; rfl
theorem Ro.cs (h : Ro w g r W) : W.cell? ⟨g, 0, none⟩ = some (.int .i8 r.f) ∧ W.cell? ⟨g, 1, none⟩ = some (.int .i64 r.d) ∧ W.cell? ⟨g, 2, none⟩ = some (.int .i8 r.g) ∧ W.cell? ⟨g, 3, none⟩ = some (.int .i64 r.e) := ⟨h.c0, h.c1, h.c2, h.c3⟩
theorem Ro.frozen (h : Ro w g r W) (j : Nat) : W.frozen? ⟨g, j, none⟩ = false := frozen_of_row W _ j _ _ h.heap
theorem Ro.rg (h : Ro w g r W) : Rg w g r W := ⟨h.below, h.lt, h.c0, h.c1, h.c2, h.c3⟩
/-- a run stored whole -/
def World.setR (W : World) (g : Nat) (v : Rn) : World :=
 (((W.setCell ⟨g, 0, none⟩ (.int .i8 v.f)).setCell ⟨g, 1, none⟩ (.int .i64 v.d)).setCell ⟨g, 2, none⟩ (.int .i8 v.g)).setCell ⟨g, 3, none⟩ (.int .i64 v.e)
theorem below_setR (h : Below w.heap.size w W) (hg : w.heap.size ≤ g) (v : Rn) : Below w.heap.size w (World.setR W g v) :=
 (((h.setCell (p := ⟨g, 0, none⟩) hg _).setCell (p := ⟨g, 1, none⟩) hg _).setCell (p := ⟨g, 2, none⟩) hg _).setCell (p := ⟨g, 3, none⟩) hg _
theorem heap_setR (W : World) (g k : Nat) (v : Rn) (h : k ≠ g) : (World.setR W g v).heap[k]? = W.heap[k]? := by
 unfold World.setR
 rw [heap_setCell_other _ _ _ _ h, heap_setCell_other _ _ _ _ h, heap_setCell_other _ _ _ _ h, heap_setCell_other _ _ _ _ h]
theorem size_setR (W : World) (g : Nat) (v : Rn) : (World.setR W g v).heap.size = W.heap.size := by simp [World.setR, World.setCell]
theorem cell_setR (W : World) (g k j : Nat) (v : Rn) (h : k ≠ g) : (World.setR W g v).cell? ⟨k, j, none⟩ = W.cell? ⟨k, j, none⟩ := by
 have hn : ∀ i : Nat, (⟨g, i, none⟩ : Addr) ≠ ⟨k, j, none⟩ := fun i q => h (by have := congrArg Addr.block q; exact this.symm)
 unfold World.setR
 rw [World.cell?_setCell_other _ _ _ _ (hn _), World.cell?_setCell_other _ _ _ _ (hn _), World.cell?_setCell_other _ _ _ _ (hn _), World.cell?_setCell_other _ _ _ _ (hn _)]
theorem Ro.other {k : Nat} (h : Ro w g r W) (hn : ¬ g = k) (hk : w.heap.size ≤ k) (v : Rn) : Ro w g r (World.setR W k v) := ⟨below_setR h.below hk v, h.base, by rw [heap_setR W k g v hn]; exact h.heap⟩
theorem Ro.fill (h : Ro w g r W) (v : Rn) : Ro w g v (World.setR W g v) := by
 refine ⟨below_setR h.below h.base v, h.base, ?_⟩
 unfold World.setR
 rw [heap_setCell_same _ g 3 _ _ _ (heap_setCell_same _ g 2 _ _ _ (heap_setCell_same _ g 1 _ _ _ (heap_setCell_same _ g 0 _ _ _ h.heap)))]
 rfl
end Go.Proofs.YtndjcmclmhoigaaGreatDoor
namespace Go.Proofs.YtndjcmclmhoigaaGreatDoor
open Go.RowKit

def efst (l : List (Int × Int)) (j : Nat) : Int := (l.getD j (0, 0)).1
def esnd (l : List (Int × Int)) (j : Nat) : Int := (l.getD j (0, 0)).2
/-- ends in a row, as every world of a walk has them -/
structure Ls (w : World) (g : Nat) (l : List (Int × Int)) (W : World) : Prop where
 below : Below w.heap.size w W
 size : g < W.heap.size
 fst : ∀ j, j < l.length → W.cell? ⟨g, j * 2, none⟩ = some (.int .i8 (efst l j))
 snd : ∀ j, j < l.length → W.cell? ⟨g, j * 2 + 1, none⟩ = some (.int .i64 (esnd l j))
theorem Ls.step {w W W' : World} {g : Nat} {l : List (Int × Int)} (h : Ls w g l W) (hb : Below W.heap.size W W') : Ls w g l W' :=
 ⟨h.below.trans (hb.mono h.below.size), by have := hb.size; have := h.size; omega, fun j hj => by rw [hb.cell (p := ⟨g, j * 2, none⟩) h.size]; exact h.fst j hj, fun j hj => by rw [hb.cell (p := ⟨g, j * 2 + 1, none⟩) h.size]; exact h.snd j hj⟩
end Go.Proofs.YtndjcmclmhoigaaGreatDoor
namespace Go.Proofs.YtndjcmclmhoigaaGreatDoor
open Go.RowKit
set_option maxRecDepth 100000

def cellsR (r : Rn) : List Value := [.int .i8 r.f, .int .i64 r.d, .int .i8 r.g, .int .i64 r.e]
/-- the first n of a sequence of runs -/
def vRn (F : Nat → Rn) : Nat → List Value
 | 0 => []
 | n + 1 => vRn F n ++ cellsR (F n)
theorem vRn_len (F : Nat → Rn) (n : Nat) : (vRn F n).length = n * 4 := by
 induction n with
 | zero => rfl
 | succ n ih => unfold vRn; rw [List.length_append, ih]; show n * 4 + 4 = _; omega
theorem vRn_at (F : Nat → Rn) (n p j : Nat) (hp : p < n) (hj : j < 4) : (vRn F n)[p * 4 + j]? = (cellsR (F p))[j]? := by
 induction n with
 | zero => omega
 | succ n ih =>
  unfold vRn
  by_cases e : p < n
  ·rw [List.getElem?_append_left (by rw [vRn_len]; omega)]
   exact ih e
  ·obtain rfl : p = n := by omega
   rw [List.getElem?_append_right (by rw [vRn_len]; omega), vRn_len, show p * 4 + j - p * 4 = j by omega]
theorem rown_below {w w' : World} {base : Nat} {e : TypeId} {size : Nat} {v : Value} {n : Nat} {xs : List Value} (h : w.ownsRow base e size v n xs) (hb : Below w.heap.size w w') : w'.ownsRow base e size v n xs :=
 h.kept (row := none) ⟨hb.os, hb.tape, hb.output, hb.size, fun k hk _ => hb.block k hk⟩ (by cases v.ownBlock <;> simp)
theorem four_row (w : World) (a b c d : Value) (t : TypeId) : ∀ j u, [a, b, c, d][j]? = some u → (w.alloc (.cells #[a, b, c, d] t)).cell? ((⟨w.heap.size, 0, none⟩ : Addr).add j) = some u := by
 intro j u hj
 match j, hj with
 | 0, hj => simp at hj; subst hj; simp [Addr.add]
 | 1, hj => simp at hj; subst hj; simp [Addr.add]
 | 2, hj => simp at hj; subst hj; simp [Addr.add]
 | 3, hj => simp at hj; subst hj; simp [Addr.add]
 | j + 4, hj => simp at hj
theorem infoRn4 : ∃ i, Tryz.prog.info? 26 = some i ∧ i.zero = some (.agg #[.int .i8 0, .int .i64 0, .int .i8 0, .int .i64 0]) ∧ i.size = 4 ∧ i.bytes = 32 := by
 have h : (Tryz.prog.info? 26).map (fun i => (i.zero, i.size, i.bytes)) = some (some (.agg #[.int .i8 0, .int .i64 0, .int .i8 0, .int .i64 0]), 4, 32) := by kernel_rfl
 cases hq : Tryz.prog.info? 26 with
 | none => rw [hq] at h; cases h
 | some i =>
  rw [hq] at h
  simp at h
  exact ⟨i, rfl, h.1, h.2.1, h.2.2⟩
/-- the runs so far -/
structure Ap (u : World) (F : Nat → Rn) (n : Nat) (v : Value) (W : World) : Prop where
 below : Below u.heap.size u W
 own : W.ownsRow u.heap.size 26 4 v n (vRn F n)
variable {u W W' : World} {F : Nat → Rn} {n : Nat} {v v' : Value}
theorem Ap.step (h : Ap u F n v W) (hb : Below W.heap.size W W') : Ap u F n v W' := ⟨h.below.trans (hb.mono h.below.size), rown_below h.own hb⟩
theorem Ap.add {X : World} (h : Ap u F n v W) (hb : Below W.heap.size W X) (ho : W'.ownsRow u.heap.size 26 4 v' (n + 1) (vRn F n ++ cellsR (F n))) (hg : X.grownBy W' v.ownBlock) : Ap u F (n + 1) v' W' :=
 ⟨(h.below.trans (hb.mono h.below.size)).grown hg (by have := h.below.size; have := hb.size; omega) (fun k hk => (h.own.lt k hk).1), ho⟩
/-- the runs, as every world of a walk has them -/
structure Kr (w : World) (g n : Nat) (F : Nat → Rn) (W : World) : Prop where
 below : Below w.heap.size w W
 size : g < W.heap.size
 c0 : ∀ p, p < n → W.cell? ⟨g, p * 4, none⟩ = some (.int .i8 (F p).f)
 c1 : ∀ p, p < n → W.cell? ⟨g, p * 4 + 1, none⟩ = some (.int .i64 (F p).d)
 c2 : ∀ p, p < n → W.cell? ⟨g, p * 4 + 2, none⟩ = some (.int .i8 (F p).g)
 c3 : ∀ p, p < n → W.cell? ⟨g, p * 4 + 3, none⟩ = some (.int .i64 (F p).e)
theorem Kr.step {w W W' : World} {g n : Nat} (h : Kr w g n F W) (hb : Below W.heap.size W W') : Kr w g n F W' :=
 ⟨h.below.trans (hb.mono h.below.size), by have := hb.size; have := h.size; omega, fun p hp => by rw [hb.cell (p := ⟨g, p * 4, none⟩) h.size]; exact h.c0 p hp, fun p hp => by rw [hb.cell (p := ⟨g, p * 4 + 1, none⟩) h.size]; exact h.c1 p hp,
  fun p hp => by rw [hb.cell (p := ⟨g, p * 4 + 2, none⟩) h.size]; exact h.c2 p hp, fun p hp => by rw [hb.cell (p := ⟨g, p * 4 + 3, none⟩) h.size]; exact h.c3 p hp⟩
theorem Ap.row {w : World} (h : Ap u F (n + 1) v W) (hw : Below w.heap.size w W) : ∃ g cap, v = .slice (some ⟨g, 0, none⟩) ((n + 1 : Nat) : Nat) cap ∧ Kr w g (n + 1) F W := by
 have ho := h.own
 obtain ⟨_, ⟨_, hn⟩ | ⟨g, cap, cur, rfl, hb, hh, hc, hm, _, _⟩⟩ := h.own
 ·omega
 ·have key : ∀ p j : Nat, p < n + 1 → j < 4 → W.cell? ⟨g, p * 4 + j, none⟩ = (cellsR (F p))[j]? := fun p j hp hj => by
   rw [ho.cellAt (p * 4 + j) (by omega), vRn_at F (n + 1) p j hp hj]
  exact ⟨g, cap, rfl, hw, (Array.getElem?_eq_some_iff.1 hh).1, fun p hp => by have := key p 0 hp (by omega); simpa [cellsR] using this, fun p hp => by have := key p 1 hp (by omega); simpa [cellsR] using this,
   fun p hp => by have := key p 2 hp (by omega); simpa [cellsR] using this, fun p hp => by have := key p 3 hp (by omega); simpa [cellsR] using this⟩
end Go.Proofs.YtndjcmclmhoigaaGreatDoor
namespace Go.Proofs.YtndjcmclmhoigaaGreatDoor
open Go.RowKit
set_option maxRecDepth 100000

/-- a list that is read, in no block k -/
structure Lq (w : World) (k : Nat) (a : Option Addr) (l : List Rn) (W : World) : Prop where
 lr : Lr w a l W
 ne : l ≠ [] → ∀ ad, a = some ad → ad.block ≠ k
variable {w W W' u : World} {a : Option Addr} {l : List Rn} {k : Nat} {v v' : Value}
theorem Lq.step (h : Lq w k a l W) (hb : Below W.heap.size W W') : Lq w k a l W' := ⟨h.lr.step hb, h.ne⟩
theorem Lq.setR (h : Lq w k a l W) (hk : w.heap.size ≤ k) (r : Rn) : Lq w k a l (World.setR W k r) := by
 refine ⟨⟨below_setR h.lr.below hk r, fun p q hp => ?_⟩, h.ne⟩
 obtain ⟨g, o, e, hg, hc⟩ := h.lr.at4 p q hp
 have hn : g ≠ k := h.ne (by rintro rfl; simp at hp) _ e
 exact ⟨g, o, e, by rw [size_setR]; exact hg, ⟨by rw [cell_setR W k g _ r hn]; exact hc.c0, by rw [cell_setR W k g _ r hn]; exact hc.c1, by rw [cell_setR W k g _ r hn]; exact hc.c2, by rw [cell_setR W k g _ r hn]; exact hc.c3⟩⟩
/-- the cells of a list -/
def vL : List Rn → List Value
 | [] => []
 | r :: t => cellsR r ++ vL t
theorem vL_len (l : List Rn) : (vL l).length = l.length * 4 := by
 induction l with
 | nil => rfl
 | cons r t ih => unfold vL; rw [List.length_append, ih, List.length_cons]; show 4 + t.length * 4 = _; omega
theorem vL_add (l m : List Rn) : vL (l ++ m) = vL l ++ vL m := by
 induction l with
 | nil => rfl
 | cons r t ih => show cellsR r ++ vL (t ++ m) = cellsR r ++ vL t ++ vL m; rw [ih, List.append_assoc]
theorem vL_at : ∀ {l : List Rn} {p j : Nat} {r : Rn}, l[p]? = some r → j < 4 → (vL l)[p * 4 + j]? = (cellsR r)[j]?
 | [], p, j, r, h, _ => by simp at h
 | x :: t, 0, j, r, h, hj => by
  simp at h
  subst h
  unfold vL
  rw [List.getElem?_append_left (by show 0 * 4 + j < 4; omega), show 0 * 4 + j = j by omega]
 | x :: t, p + 1, j, r, h, hj => by
  unfold vL
  rw [List.getElem?_append_right (by show 4 ≤ (p + 1) * 4 + j; omega), show (p + 1) * 4 + j - (cellsR x).length = p * 4 + j by show (p + 1) * 4 + j - 4 = _; omega]
  exact vL_at (by simpa using h) hj
/-- the runs so far, in memory newer than the world u -/
structure Ag (u : World) (l : List Rn) (v : Value) (W : World) : Prop where
 below : Below u.heap.size u W
 own : W.ownsRow u.heap.size 26 4 v l.length (vL l)
theorem ag_new (u : World) : Ag u [] (.slice none 0 0) u := ⟨Below.refl _ _, World.ownsRow_nil _ _ _ _⟩
theorem Ag.step (h : Ag u l v W) (hb : Below W.heap.size W W') : Ag u l v W' := ⟨h.below.trans (hb.mono h.below.size), rown_below h.own hb⟩
theorem Ag.add {X : World} {r : Rn} (h : Ag u l v W) (hb : Below W.heap.size W X) (ho : W'.ownsRow u.heap.size 26 4 v' (l.length + 1) (vL l ++ cellsR r)) (hg : X.grownBy W' v.ownBlock) : Ag u (l ++ [r]) v' W' :=
 ⟨(h.below.trans (hb.mono h.below.size)).grown hg (by have := h.below.size; have := hb.size; omega) (fun k hk => (h.own.lt k hk).1), by
  have e : vL (l ++ [r]) = vL l ++ cellsR r := by rw [vL_add]; show vL l ++ (cellsR r ++ []) = _; rw [List.append_nil]
  rw [e, List.length_append]
  exact ho⟩
theorem Ag.row (h : Ag u l v W) (hw : Below w.heap.size w u) : ∃ a cap, v = .slice a l.length cap ∧ Lr w a l W ∧ (l ≠ [] → ∀ ad, a = some ad → u.heap.size ≤ ad.block) := by
 have ho := h.own
 have hB := hw.trans (h.below.mono hw.size)
 obtain ⟨_, ⟨rfl, hn⟩ | ⟨g, cap, cur, rfl, hb, hh, hc, hm, _, _⟩⟩ := h.own
 ·have : l = [] := List.length_eq_zero_iff.1 (by omega)
  subst this
  exact ⟨none, 0, rfl, ⟨hB, fun p r hp => by simp at hp⟩, fun q => absurd rfl q⟩
 ·refine ⟨some ⟨g, 0, none⟩, cap, rfl, ⟨hB, fun p r hp => ?_⟩, fun _ ad e => by injection e with e; subst e; exact hb⟩
  have key : ∀ j : Nat, j < 4 → W.cell? ⟨g, p * 4 + j, none⟩ = (cellsR r)[j]? := fun j hj => by
   have hl : p < l.length := (List.getElem?_eq_some_iff.1 hp).1
   rw [ho.cellAt (p * 4 + j) (by omega), vL_at hp hj]
  refine ⟨g, 0, rfl, (Array.getElem?_eq_some_iff.1 hh).1, ?_, ?_, ?_, ?_⟩
  ·rw [show 0 + p * 4 = p * 4 + 0 by omega]; exact key 0 (by omega)
  ·rw [show 0 + p * 4 + 1 = p * 4 + 1 by omega]; exact key 1 (by omega)
  ·rw [show 0 + p * 4 + 2 = p * 4 + 2 by omega]; exact key 2 (by omega)
  ·rw [show 0 + p * 4 + 3 = p * 4 + 3 by omega]; exact key 3 (by omega)
end Go.Proofs.YtndjcmclmhoigaaGreatDoor
