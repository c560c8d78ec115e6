/-
 DERIVED. A row of runs of a walk's own, that grows run by run. (For the law RunsKnown.)
-/
import Derived.Test.YteddfolhpoikcaaGreatDoorPRf
import Derived.Test.YteddfolhpoikcaaGreatDoorPR1b
import Derived.Test.YteddfolhpoikcaaGreatDoorPEnLs
import Derived.OwnWalk
import Derived.Carry
namespace Go.Proofs.YteddfolhpoikcaaGreatDoor
open Go.RowKit
set_option maxRecDepth 100000

def cellsR (r : Rn) : List Value := [.int .i8 r.f, .int .i64 r.d, .int .i8 r.g, .int .i64 r.e]
/-- the first n of a sequence of runs -/
def vRn (F : Nat → Rn) : Nat → List Value
 | 0 => []
 | n + 1 => vRn F n ++ cellsR (F n)
theorem vRn_len (F : Nat → Rn) (n : Nat) : (vRn F n).length = n * 4 := by
 induction n with
 | zero => rfl
 | succ n ih => unfold vRn; rw [List.length_append, ih]; show n * 4 + 4 = _; omega
theorem vRn_at (F : Nat → Rn) (n p j : Nat) (hp : p < n) (hj : j < 4) : (vRn F n)[p * 4 + j]? = (cellsR (F p))[j]? := by
 induction n with
 | zero => omega
 | succ n ih =>
  unfold vRn
  by_cases e : p < n
  ·rw [List.getElem?_append_left (by rw [vRn_len]; omega)]
   exact ih e
  ·obtain rfl : p = n := by omega
   rw [List.getElem?_append_right (by rw [vRn_len]; omega), vRn_len, show p * 4 + j - p * 4 = j by omega]
theorem rown_below {w w' : World} {base : Nat} {e : TypeId} {size : Nat} {v : Value} {n : Nat} {xs : List Value} (h : w.ownsRow base e size v n xs) (hb : Below w.heap.size w w') : w'.ownsRow base e size v n xs :=
 h.kept (row := none) ⟨hb.os, hb.tape, hb.output, hb.size, fun k hk _ => hb.block k hk⟩ (by cases v.ownBlock <;> simp)
theorem rown_form {w : World} {base : Nat} {e : TypeId} {size : Nat} {v : Value} {n : Nat} {xs : List Value} (h : w.ownsRow base e size v n xs) : ∃ a cap, v = .slice a n cap := by
 obtain ⟨_, ⟨rfl, rfl⟩ | ⟨g, cap, cur, rfl, _⟩⟩ := h
 ·exact ⟨none, 0, rfl⟩
 ·exact ⟨_, cap, rfl⟩
theorem four_row (w : World) (a b c d : Value) (t : TypeId) : ∀ j u, [a, b, c, d][j]? = some u → (w.alloc (.cells #[a, b, c, d] t)).cell? ((⟨w.heap.size, 0, none⟩ : Addr).add j) = some u := by
 intro j u hj
 match j, hj with
 | 0, hj => simp at hj; subst hj; simp [Addr.add]
 | 1, hj => simp at hj; subst hj; simp [Addr.add]
 | 2, hj => simp at hj; subst hj; simp [Addr.add]
 | 3, hj => simp at hj; subst hj; simp [Addr.add]
 | j + 4, hj => simp at hj
theorem infoRn4 : ∃ i, Tryz.prog.info? 26 = some i ∧ i.zero = some (.agg #[.int .i8 0, .int .i64 0, .int .i8 0, .int .i64 0]) ∧ i.size = 4 ∧ i.bytes = 32 := by
 have h : (Tryz.prog.info? 26).map (fun i => (i.zero, i.size, i.bytes)) = some (some (.agg #[.int .i8 0, .int .i64 0, .int .i8 0, .int .i64 0]), 4, 32) := by kernel_rfl
 cases hq : Tryz.prog.info? 26 with
 | none => rw [hq] at h; cases h
 | some i =>
  rw [hq] at h
  simp at h
  exact ⟨i, rfl, h.1, h.2.1, h.2.2⟩
/-- the runs so far -/
structure Ap (u : World) (F : Nat → Rn) (n : Nat) (v : Value) (W : World) : Prop where
 below : Below u.heap.size u W
 own : W.ownsRow u.heap.size 26 4 v n (vRn F n)
variable {u W W' : World} {F : Nat → Rn} {n : Nat} {v v' : Value}
theorem ap_new (u : World) (F : Nat → Rn) : Ap u F 0 (.slice none 0 0) u := ⟨Below.refl _ _, World.ownsRow_nil _ _ _ _⟩
theorem Ap.step (h : Ap u F n v W) (hb : Below W.heap.size W W') : Ap u F n v W' := ⟨h.below.trans (hb.mono h.below.size), rown_below h.own hb⟩
theorem Ap.add {X : World} (h : Ap u F n v W) (hb : Below W.heap.size W X) (ho : W'.ownsRow u.heap.size 26 4 v' (n + 1) (vRn F n ++ cellsR (F n))) (hg : X.grownBy W' v.ownBlock) : Ap u F (n + 1) v' W' :=
 ⟨(h.below.trans (hb.mono h.below.size)).grown hg (by have := h.below.size; have := hb.size; omega) (fun k hk => (h.own.lt k hk).1), ho⟩
/-- the runs, as every world of a walk has them -/
structure Kr (w : World) (g n : Nat) (F : Nat → Rn) (W : World) : Prop where
 below : Below w.heap.size w W
 size : g < W.heap.size
 c0 : ∀ p, p < n → W.cell? ⟨g, p * 4, none⟩ = some (.int .i8 (F p).f)
 c1 : ∀ p, p < n → W.cell? ⟨g, p * 4 + 1, none⟩ = some (.int .i64 (F p).d)
 c2 : ∀ p, p < n → W.cell? ⟨g, p * 4 + 2, none⟩ = some (.int .i8 (F p).g)
 c3 : ∀ p, p < n → W.cell? ⟨g, p * 4 + 3, none⟩ = some (.int .i64 (F p).e)
theorem Kr.step {w W W' : World} {g n : Nat} (h : Kr w g n F W) (hb : Below W.heap.size W W') : Kr w g n F W' :=
 ⟨h.below.trans (hb.mono h.below.size), by have := hb.size; have := h.size; omega, fun p hp => by rw [hb.cell (p := ⟨g, p * 4, none⟩) h.size]; exact h.c0 p hp, fun p hp => by rw [hb.cell (p := ⟨g, p * 4 + 1, none⟩) h.size]; exact h.c1 p hp,
  fun p hp => by rw [hb.cell (p := ⟨g, p * 4 + 2, none⟩) h.size]; exact h.c2 p hp, fun p hp => by rw [hb.cell (p := ⟨g, p * 4 + 3, none⟩) h.size]; exact h.c3 p hp⟩
theorem Ap.row {w : World} (h : Ap u F (n + 1) v W) (hw : Below w.heap.size w W) : ∃ g cap, v = .slice (some ⟨g, 0, none⟩) ((n + 1 : Nat) : Nat) cap ∧ Kr w g (n + 1) F W := by
 have ho := h.own
 obtain ⟨_, ⟨_, hn⟩ | ⟨g, cap, cur, rfl, hb, hh, hc, hm, _, _⟩⟩ := h.own
 ·omega
 ·have key : ∀ p j : Nat, p < n + 1 → j < 4 → W.cell? ⟨g, p * 4 + j, none⟩ = (cellsR (F p))[j]? := fun p j hp hj => by
   rw [ho.cellAt (p * 4 + j) (by omega), vRn_at F (n + 1) p j hp hj]
  exact ⟨g, cap, rfl, hw, (Array.getElem?_eq_some_iff.1 hh).1, fun p hp => by have := key p 0 hp (by omega); simpa [cellsR] using this, fun p hp => by have := key p 1 hp (by omega); simpa [cellsR] using this,
   fun p hp => by have := key p 2 hp (by omega); simpa [cellsR] using this, fun p hp => by have := key p 3 hp (by omega); simpa [cellsR] using this⟩
end Go.Proofs.YteddfolhpoikcaaGreatDoor
