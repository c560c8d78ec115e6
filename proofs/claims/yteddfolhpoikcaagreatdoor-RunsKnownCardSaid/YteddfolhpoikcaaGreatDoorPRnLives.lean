/-
 DERIVED. The examples of chapter 9, given the contracts of package runs. Written by mkrn5.py.
-/
import Derived.Test.YteddfolhpoikcaaGreatDoorPCo
import Derived.Test.YteddfolhpoikcaaGreatDoorPRnTri
import Derived.Test.YteddfolhpoikcaaGreatDoorPRnVals
import Derived.Test.YteddfolhpoikcaaGreatDoorPHand
namespace Go.Proofs.YteddfolhpoikcaaGreatDoor
open Go.RowKit
set_option maxRecDepth 100000

structure Sx (w : World) (g : Nat) (W : World) : Prop where
 below : Below w.heap.size w W
 size : g < W.heap.size
 base : w.heap.size ≤ g
 c0 : W.cell? ⟨g, 0, none⟩ = some (.string ⟨#[45, 105, 110, 102, 46, 46, 45, 51]⟩)
 c1 : W.cell? ⟨g, 1, none⟩ = some (.string ⟨#[53, 46, 46, 51]⟩)
 c2 : W.cell? ⟨g, 2, none⟩ = some (.string ⟨#[105, 110, 102, 46, 46, 105, 110, 102]⟩)
 c3 : W.cell? ⟨g, 3, none⟩ = some (.string ⟨#[49, 46, 46, 46, 51]⟩)
theorem Sx.cs {w W : World} {g : Nat} (h : Sx w g W) : W.cell? ⟨g, 0, none⟩ = some (.string ⟨#[45, 105, 110, 102, 46, 46, 45, 51]⟩) ∧ W.cell? ⟨g, 1, none⟩ = some (.string ⟨#[53, 46, 46, 51]⟩) ∧ W.cell? ⟨g, 2, none⟩ = some (.string ⟨#[105, 110, 102, 46, 46, 105, 110, 102]⟩) ∧ W.cell? ⟨g, 3, none⟩ = some (.string ⟨#[49, 46, 46, 46, 51]⟩) := ⟨h.c0, h.c1, h.c2, h.c3⟩
theorem Sx.step {w W W' : World} {g : Nat} (h : Sx w g W) (hb : Below W.heap.size W W') : Sx w g W' :=
 ⟨h.below.trans (hb.mono h.below.size), by have := hb.size; have := h.size; omega, h.base, by rw [hb.cell (p := ⟨g, 0, none⟩) h.size]; exact h.c0, by rw [hb.cell (p := ⟨g, 1, none⟩) h.size]; exact h.c1, by rw [hb.cell (p := ⟨g, 2, none⟩) h.size]; exact h.c2, by rw [hb.cell (p := ⟨g, 3, none⟩) h.size]; exact h.c3⟩
theorem sx_new {w W : World} (t : TypeId) (hb : Below w.heap.size w W) : Sx w W.heap.size (W.alloc (.cells #[.string ⟨#[45, 105, 110, 102, 46, 46, 45, 51]⟩, .string ⟨#[53, 46, 46, 51]⟩, .string ⟨#[105, 110, 102, 46, 46, 105, 110, 102]⟩, .string ⟨#[49, 46, 46, 46, 51]⟩] t)) :=
 ⟨hb.alloc hb.size _, by simp, hb.size, by rw [World.cell?_alloc_new]; rfl, by rw [World.cell?_alloc_new]; rfl, by rw [World.cell?_alloc_new]; rfl, by rw [World.cell?_alloc_new]; rfl⟩
theorem Sx.row {w W : World} {g j : Nat} (h : Sx w g W) (hn : ¬ g = j) (hj : w.heap.size ≤ j) (cs : Array Value) : Sx w g (W.setRow j cs) := by
 have hs : g < (W.setRow j cs).heap.size := by
  have := setRow_other W j g cs hn
  rw [Array.getElem?_eq_getElem h.size] at this
  exact (Array.getElem?_eq_some_iff.1 this).1
 have hc : ∀ i : Nat, (W.setRow j cs).cell? ⟨g, i, none⟩ = W.cell? ⟨g, i, none⟩ := fun i => by
  unfold World.cell?
  simp only [setRow_other W j g cs hn]
 exact ⟨below_setRow h.below hj _, hs, h.base, by rw [hc]; exact h.c0, by rw [hc]; exact h.c1, by rw [hc]; exact h.c2, by rw [hc]; exact h.c3⟩
theorem Sx.ne {w W : World} {g : Nat} (h : Sx w g W) : ¬ W.heap.size = g := by have := h.size; omega
structure Wx (w : World) (g : Nat) (W : World) : Prop where
 below : Below w.heap.size w W
 size : g < W.heap.size
 base : w.heap.size ≤ g
 c0 : W.cell? ⟨g, 0, none⟩ = some (.int .i64 0)
 c1 : W.cell? ⟨g, 1, none⟩ = some (.int .i64 12)
 c2 : W.cell? ⟨g, 2, none⟩ = some (.int .i64 4)
 c3 : W.cell? ⟨g, 3, none⟩ = some (.int .i64 5)
theorem Wx.cs {w W : World} {g : Nat} (h : Wx w g W) : W.cell? ⟨g, 0, none⟩ = some (.int .i64 0) ∧ W.cell? ⟨g, 1, none⟩ = some (.int .i64 12) ∧ W.cell? ⟨g, 2, none⟩ = some (.int .i64 4) ∧ W.cell? ⟨g, 3, none⟩ = some (.int .i64 5) := ⟨h.c0, h.c1, h.c2, h.c3⟩
theorem Wx.step {w W W' : World} {g : Nat} (h : Wx w g W) (hb : Below W.heap.size W W') : Wx w g W' :=
 ⟨h.below.trans (hb.mono h.below.size), by have := hb.size; have := h.size; omega, h.base, by rw [hb.cell (p := ⟨g, 0, none⟩) h.size]; exact h.c0, by rw [hb.cell (p := ⟨g, 1, none⟩) h.size]; exact h.c1, by rw [hb.cell (p := ⟨g, 2, none⟩) h.size]; exact h.c2, by rw [hb.cell (p := ⟨g, 3, none⟩) h.size]; exact h.c3⟩
theorem wx_new {w W : World} (t : TypeId) (hb : Below w.heap.size w W) : Wx w W.heap.size (W.alloc (.cells #[.int .i64 0, .int .i64 12, .int .i64 4, .int .i64 5] t)) :=
 ⟨hb.alloc hb.size _, by simp, hb.size, by rw [World.cell?_alloc_new]; rfl, by rw [World.cell?_alloc_new]; rfl, by rw [World.cell?_alloc_new]; rfl, by rw [World.cell?_alloc_new]; rfl⟩
theorem Wx.row {w W : World} {g j : Nat} (h : Wx w g W) (hn : ¬ g = j) (hj : w.heap.size ≤ j) (cs : Array Value) : Wx w g (W.setRow j cs) := by
 have hs : g < (W.setRow j cs).heap.size := by
  have := setRow_other W j g cs hn
  rw [Array.getElem?_eq_getElem h.size] at this
  exact (Array.getElem?_eq_some_iff.1 this).1
 have hc : ∀ i : Nat, (W.setRow j cs).cell? ⟨g, i, none⟩ = W.cell? ⟨g, i, none⟩ := fun i => by
  unfold World.cell?
  simp only [setRow_other W j g cs hn]
 exact ⟨below_setRow h.below hj _, hs, h.base, by rw [hc]; exact h.c0, by rw [hc]; exact h.c1, by rw [hc]; exact h.c2, by rw [hc]; exact h.c3⟩
theorem Wx.ne {w W : World} {g : Nat} (h : Wx w g W) : ¬ W.heap.size = g := by have := h.size; omega
set_option maxHeartbeats 32000000 in
theorem lives_of {I : World → Prop} (C : RunCoreA I) (w : World) (hI : I w) :
 Calls Tryz.prog 24 #[] w fun e w' => e = .returned (.bool true) ∧ Below w.heap.size w w' := by
 have HL := Kp.mk (erow_two w (-1) 0 1 0).1
 have HH := Kp.mk (erow_two w (-1) 0 1 0).2
 have HB := Kp.mk (Bl.mk HL.1.below)
 have HI := Kp.mk (fun (v : World) (h : Below w.heap.size w v) => C.keep hI h)
 clear hI
 have y13 := Kp.mk (fun w => days_is 1 3 w)
 have y45 := Kp.mk (fun w => days_is 4 5 w)
 have y56 := Kp.mk (fun w => days_is 5 6 w)
 have y39 := Kp.mk (fun w => days_is 3 9 w)
 have y15 := Kp.mk (fun w => days_is 1 5 w)
 have y33 := Kp.mk (fun w => days_is 3 3 w)
 have y35 := Kp.mk (fun w => days_is 3 5 w)
 have y1m := Kp.mk (fun w => days_is (-1) 9223372036854775807 w)
 have y0m := Kp.mk (fun w => days_is 0 9223372036854775807 w)
 have t1 : Kp (∀ u, Below w.heap.size w u → Calls Tryz.prog 16 #[.agg #[.int .i8 0, .int .i64 1, .int .i8 0, .int .i64 3], .agg #[.int .i8 0, .int .i64 4, .int .i8 0, .int .i64 5]] u fun e w' => e = .returned (.bool true) ∧ Below u.heap.size u w') := Kp.mk (fun u hw => C.touch (a := ⟨0, 1, 0, 3⟩) (b := ⟨0, 4, 0, 5⟩) u (HI.1 u hw) (in_of (by decide)) (in_of (by decide)) (by decide +kernel))
 have t2 : Kp (∀ u, Below w.heap.size w u → Calls Tryz.prog 16 #[.agg #[.int .i8 0, .int .i64 1, .int .i8 0, .int .i64 3], .agg #[.int .i8 0, .int .i64 5, .int .i8 0, .int .i64 6]] u fun e w' => e = .returned (.bool false) ∧ Below u.heap.size u w') := Kp.mk (fun u hw => C.touch (a := ⟨0, 1, 0, 3⟩) (b := ⟨0, 5, 0, 6⟩) u (HI.1 u hw) (in_of (by decide)) (in_of (by decide)) (by decide +kernel))
 have t3 : Kp (∀ u, Below w.heap.size w u → Calls Tryz.prog 16 #[.agg #[.int .i8 (-1), .int .i64 0, .int .i8 0, .int .i64 3], .agg #[.int .i8 0, .int .i64 2, .int .i8 1, .int .i64 0]] u fun e w' => e = .returned (.bool true) ∧ Below u.heap.size u w') := Kp.mk (fun u hw => C.touch (a := ⟨-1, 0, 0, 3⟩) (b := ⟨0, 2, 1, 0⟩) u (HI.1 u hw) (in_of (by decide)) (in_of (by decide)) (by decide +kernel))
 have j1 : Kp (∀ u, Below w.heap.size w u → Calls Tryz.prog 14 #[.agg #[.int .i8 0, .int .i64 1, .int .i8 0, .int .i64 3], .agg #[.int .i8 0, .int .i64 4, .int .i8 0, .int .i64 5]] u fun e w' => e = .returned (.tuple #[.agg #[.int .i8 0, .int .i64 1, .int .i8 0, .int .i64 5], .bool true]) ∧ Below u.heap.size u w') := Kp.mk (fun u hw => C.join (v := ⟨0, 1, 0, 5⟩) (a := ⟨0, 1, 0, 3⟩) (b := ⟨0, 4, 0, 5⟩) u (HI.1 u hw) (in_of (by decide)) (in_of (by decide)) (by decide +kernel) rfl)
 have m1 : Kp (∀ u, Below w.heap.size w u → Calls Tryz.prog 15 #[.agg #[.int .i8 0, .int .i64 1, .int .i8 0, .int .i64 3], .agg #[.int .i8 0, .int .i64 3, .int .i8 0, .int .i64 9]] u fun e w' => e = .returned (.tuple #[.agg #[.int .i8 0, .int .i64 3, .int .i8 0, .int .i64 3], .bool true]) ∧ Below u.heap.size u w') := Kp.mk (fun u hw => C.comm (v := ⟨0, 3, 0, 3⟩) (a := ⟨0, 1, 0, 3⟩) (b := ⟨0, 3, 0, 9⟩) u (HI.1 u hw) (in_of (by decide)) (in_of (by decide)) (by decide +kernel) rfl)
 have m2 : Kp (∀ u, Below w.heap.size w u → Calls Tryz.prog 15 #[.agg #[.int .i8 0, .int .i64 1, .int .i8 0, .int .i64 3], .agg #[.int .i8 0, .int .i64 4, .int .i8 0, .int .i64 5]] u fun e w' => e = .returned (.tuple #[.agg #[.int .i8 0, .int .i64 0, .int .i8 0, .int .i64 0], .bool false]) ∧ Below u.heap.size u w') := Kp.mk (fun u hw => C.comm_no (a := ⟨0, 1, 0, 3⟩) (b := ⟨0, 4, 0, 5⟩) u (HI.1 u hw) (in_of (by decide)) (in_of (by decide)) (by decide +kernel))
 have f1 : Kp (∀ u, Calls Tryz.prog 17 #[.agg #[.int .i8 0, .int .i64 1, .int .i8 0, .int .i64 5], .bool true, .agg #[.int .i8 0, .int .i64 1, .int .i8 0, .int .i64 5], .bool true] u fun e w' => e = .returned (.bool true) ∧ Below u.heap.size u w') := Kp.mk (fun u => found_yes ⟨0, 1, 0, 5⟩ u)
 have f2 : Kp (∀ u, Calls Tryz.prog 17 #[.agg #[.int .i8 0, .int .i64 3, .int .i8 0, .int .i64 3], .bool true, .agg #[.int .i8 0, .int .i64 3, .int .i8 0, .int .i64 3], .bool true] u fun e w' => e = .returned (.bool true) ∧ Below u.heap.size u w') := Kp.mk (fun u => found_yes ⟨0, 3, 0, 3⟩ u)
 have f3 : Kp (∀ u, Calls Tryz.prog 17 #[.agg #[.int .i8 0, .int .i64 0, .int .i8 0, .int .i64 0], .bool false, .agg #[.int .i8 0, .int .i64 1, .int .i8 0, .int .i64 3], .bool false] u fun e w' => e = .returned (.bool true) ∧ Below u.heap.size u w') := Kp.mk (fun u => found_no ⟨0, 1, 0, 3⟩ u)
 have l1 : Kp (∀ u, Below w.heap.size w u → Calls Tryz.prog 25 #[.agg #[.int .i8 0, .int .i64 3, .int .i8 0, .int .i64 5]] u fun e w' => e = .returned (.tuple #[.int .i64 3, .int .i64 0]) ∧ Below u.heap.size u w') := Kp.mk (fun u hw => C.len_ok (a := ⟨0, 3, 0, 5⟩) u (HI.1 u hw) (in_of (by decide)) (by decide +kernel) (by decide +kernel) (by decide +kernel))
 have l2 : Kp (∀ u, Below w.heap.size w u → Calls Tryz.prog 25 #[.agg #[.int .i8 (-1), .int .i64 0, .int .i8 0, .int .i64 3]] u fun e w' => e = .returned (.tuple #[.int .i64 0, .int .i64 16]) ∧ Below u.heap.size u w') := Kp.mk (fun u hw => C.len_ok (a := ⟨-1, 0, 0, 3⟩) u (HI.1 u hw) (in_of (by decide)) (by decide +kernel) (by decide +kernel) (by decide +kernel))
 have l3 : Kp (∀ u, Below w.heap.size w u → Calls Tryz.prog 25 #[.agg #[.int .i8 0, .int .i64 (-1), .int .i8 0, .int .i64 9223372036854775807]] u fun e w' => e = .returned (.tuple #[.int .i64 0, .int .i64 15]) ∧ Below u.heap.size u w') := Kp.mk (fun u hw => C.len_ok (a := ⟨0, -1, 0, 9223372036854775807⟩) u (HI.1 u hw) (in_of (by decide)) (by decide +kernel) (by decide +kernel) (by decide +kernel))
 have h1 : Kp (∀ u, Below w.heap.size w u → Calls Tryz.prog 22 #[.agg #[.int .i8 (-1), .int .i64 0, .int .i8 0, .int .i64 3], .int .i64 (-9223372036854775808)] u fun e w' => e = .returned (.bool true) ∧ Below u.heap.size u w') := Kp.mk (fun u hw => C.has (a := ⟨-1, 0, 0, 3⟩) u (HI.1 u hw) (in_of (by decide)) (by decide) (by decide) (by decide +kernel))
 have s1 : Kp (∀ u, Below w.heap.size w u → Calls Tryz.prog 26 #[.agg #[.int .i8 0, .int .i64 3, .int .i8 1, .int .i64 0], .int .i64 (-4)] u fun e w' => e = .returned (.tuple #[.agg #[.int .i8 0, .int .i64 (-1), .int .i8 1, .int .i64 0], .int .i64 0]) ∧ Below u.heap.size u w') := Kp.mk (fun u hw => C.shift_ok (s := ⟨0, -1, 1, 0⟩) (a := ⟨0, 3, 1, 0⟩) u (HI.1 u hw) (in_of (by decide)) (by decide +kernel) (by decide) (by decide) val_m1)
 have s2 : Kp (∀ u, Below w.heap.size w u → Calls Tryz.prog 26 #[.agg #[.int .i8 0, .int .i64 0, .int .i8 0, .int .i64 9223372036854775807], .int .i64 1] u fun e w' => e = .returned (.tuple #[.agg #[.int .i8 0, .int .i64 0, .int .i8 0, .int .i64 0], .int .i64 15]) ∧ Below u.heap.size u w') := Kp.mk (fun u hw => C.shift_ok (s := zeroR) (a := ⟨0, 0, 0, 9223372036854775807⟩) u (HI.1 u hw) (in_of (by decide)) (by decide +kernel) (by decide) (by decide) val_m2)
 have g1 : Kp (∀ u, Calls Tryz.prog 28 #[.agg #[.int .i8 0, .int .i64 (-1), .int .i8 1, .int .i64 0], .int .i64 0, .agg #[.int .i8 0, .int .i64 (-1), .int .i8 1, .int .i64 0], .int .i64 0] u fun e w' => e = .returned (.bool true) ∧ Below u.heap.size u w') := Kp.mk (fun u => gives_ok ⟨0, -1, 1, 0⟩ u)
 have g2 : Kp (∀ u, Calls Tryz.prog 28 #[.agg #[.int .i8 0, .int .i64 0, .int .i8 0, .int .i64 0], .int .i64 15, .agg #[.int .i8 0, .int .i64 1, .int .i8 0, .int .i64 3], .int .i64 15] u fun e w' => e = .returned (.bool true) ∧ Below u.heap.size u w') := Kp.mk (fun u => gives_bad (by decide) ⟨0, 1, 0, 3⟩ u)
 have p0 : Kp (∀ u, Below w.heap.size w u → Calls Tryz.prog 33 #[.string ⟨#[45, 105, 110, 102, 46, 46, 45, 51]⟩] u fun e w' => e = .returned (.tuple #[.agg #[.int .i8 (-1), .int .i64 0, .int .i8 0, .int .i64 (-3)], .int .i64 0]) ∧ Below u.heap.size u w') := Kp.mk (fun u hw => C.parse u (HI.1 u hw) (by decide) val_p1)
 have q0 : Kp (∀ u, Calls Tryz.prog 28 #[.agg #[.int .i8 (-1), .int .i64 0, .int .i8 0, .int .i64 (-3)], .int .i64 0, .agg #[.int .i8 (-1), .int .i64 0, .int .i8 0, .int .i64 (-3)], .int .i64 0] u fun e w' => e = .returned (.bool true) ∧ Below u.heap.size u w') := Kp.mk (fun u => gives_ok ⟨-1, 0, 0, -3⟩ u)
 have p1 : Kp (∀ u, Below w.heap.size w u → Calls Tryz.prog 33 #[.string ⟨#[53, 46, 46, 51]⟩] u fun e w' => e = .returned (.tuple #[.agg #[.int .i8 0, .int .i64 0, .int .i8 0, .int .i64 0], .int .i64 12]) ∧ Below u.heap.size u w') := Kp.mk (fun u hw => C.parse u (HI.1 u hw) (by decide) val_p2)
 have q1 : Kp (∀ u, Calls Tryz.prog 28 #[.agg #[.int .i8 0, .int .i64 0, .int .i8 0, .int .i64 0], .int .i64 12, .agg #[.int .i8 (-1), .int .i64 0, .int .i8 0, .int .i64 (-3)], .int .i64 12] u fun e w' => e = .returned (.bool true) ∧ Below u.heap.size u w') := Kp.mk (fun u => gives_bad (by decide) ⟨-1, 0, 0, -3⟩ u)
 have p2 : Kp (∀ u, Below w.heap.size w u → Calls Tryz.prog 33 #[.string ⟨#[105, 110, 102, 46, 46, 105, 110, 102]⟩] u fun e w' => e = .returned (.tuple #[.agg #[.int .i8 0, .int .i64 0, .int .i8 0, .int .i64 0], .int .i64 4]) ∧ Below u.heap.size u w') := Kp.mk (fun u hw => C.parse u (HI.1 u hw) (by decide) val_p3)
 have q2 : Kp (∀ u, Calls Tryz.prog 28 #[.agg #[.int .i8 0, .int .i64 0, .int .i8 0, .int .i64 0], .int .i64 4, .agg #[.int .i8 (-1), .int .i64 0, .int .i8 0, .int .i64 (-3)], .int .i64 4] u fun e w' => e = .returned (.bool true) ∧ Below u.heap.size u w') := Kp.mk (fun u => gives_bad (by decide) ⟨-1, 0, 0, -3⟩ u)
 have p3 : Kp (∀ u, Below w.heap.size w u → Calls Tryz.prog 33 #[.string ⟨#[49, 46, 46, 46, 51]⟩] u fun e w' => e = .returned (.tuple #[.agg #[.int .i8 0, .int .i64 0, .int .i8 0, .int .i64 0], .int .i64 5]) ∧ Below u.heap.size u w') := Kp.mk (fun u hw => C.parse u (HI.1 u hw) (by decide) val_p4)
 have q3 : Kp (∀ u, Calls Tryz.prog 28 #[.agg #[.int .i8 0, .int .i64 0, .int .i8 0, .int .i64 0], .int .i64 5, .agg #[.int .i8 (-1), .int .i64 0, .int .i8 0, .int .i64 (-3)], .int .i64 5] u fun e w' => e = .returned (.bool true) ∧ Below u.heap.size u w') := Kp.mk (fun u => gives_bad (by decide) ⟨-1, 0, 0, -3⟩ u)
 clear C
 go_enter Tryz.func24, Tryz.ntmps24
 go_upto_region 2 with fail
 generalize (w.alloc (.cells #[.int .i8 (-1), .int .i64 0] 24)).alloc (.cells #[.int .i8 1, .int .i64 0] 24) = w0 at *
 go_cut [3, 4, 5] from 23 to 27 (fun p q r wx => ∃ g3 g4 g5 : Nat, p = .pointer (some ⟨g3, 0, none⟩) ∧ q = .pointer (some ⟨g4, 0, none⟩) ∧ r = .pointer (some ⟨g5, 0, none⟩) ∧ Kp (ERow w (w.heap.size) (-1) 0 wx) ∧ Kp (ERow w (w.heap.size + 1) 1 0 wx) ∧ Kp (Rl w g3 0 1 0 3 wx) ∧ Kp (Rl w g4 0 4 0 5 wx) ∧ Kp (Rl w g5 (-1) 0 0 3 wx))
 case first =>
  have HT := Kp.mk (show Tl w [] w0 from ⟨HB.1, HL.1, HH.1, fun _ h => (by cases h), List.Pairwise.nil⟩)
  clear HB HL HH
  have hd := (Below.refl w0.heap.size w0).drew
  have HT := Kp.mk (HT.1.step hd)
  clear hd
  refine wp_region_held_drew (S := fun w' => w'.cell? ⟨w.heap.size, 0, none⟩ = some (.int .i8 (-1)) ∧ w'.cell? ⟨w.heap.size, 1, none⟩ = some (.int .i64 0)) (by kernel_rfl) HT.1.s (fun hH => ?_)
  generalize w0.drew = vz at *
  refine tk 2 ?_ rfl hH ?_ ?_
  rotate_left
  ·(intro w hSw; (try dsimp only at hSw); go_simp; try with_reducible rfl)
  try simp only [pt]
  refine tk 3 ?_ rfl hH ?_ ?_
  rotate_left
  ·(intro w hSw; (try dsimp only at hSw); go_simp; try with_reducible rfl)
  try simp only [pt]
  refine tk 4 ?_ rfl hH ?_ ?_
  rotate_left
  ·(intro w hSw; (try dsimp only at hSw); go_simp; try with_reducible rfl)
  try simp only [pt]
  refine rd [0, 5, 6, 7] ?_
  refine .cons (dropAt rfl) (fun K hK => ?_) (.cons (dropAt rfl) (fun K hK => ?_) (.cons (dropAt rfl) (fun K hK => ?_) (.cons (dropAt rfl) (fun K hK => ?_) .nil)))
  focus
   clear hH
   go_simp
   go_at_call 29
   refine (y13.1 _).mono ?_
   rintro e v1 ⟨rfl, hb⟩
   have HT := Kp.mk (HT.1.step hb)
   clear hb
   go_wp2_with fail
   refine hK.out _ _ HT.1.s (fun hH => ?_)
   clear hK K
   try simp only [pt]
   refine rd [1, 5, 6, 7] ?_
   refine .cons (dropAt rfl) (fun K hK => ?_) (.cons (dropAt rfl) (fun K hK => ?_) (.cons (dropAt rfl) (fun K hK => ?_) (.cons (dropAt rfl) (fun K hK => ?_) .nil)))
   focus
    clear hH
    go_simp
    go_at_call 29
    refine (y45.1 _).mono ?_
    rintro e v2 ⟨rfl, hb⟩
    have HT := Kp.mk (HT.1.step hb)
    clear hb
    go_wp2_with fail
    refine hK.out _ _ HT.1.s (fun hH => ?_)
    clear hK K
    try simp only [pt]
    refine rd [5, 6, 7] ?_
    refine .cons (dropAt rfl) (fun K hK => ?_) (.cons (dropAt rfl) (fun K hK => ?_) (.cons (dropAt rfl) (fun K hK => ?_) .nil))
    focus
     clear hH
     go_simp
     have HT := Kp.mk HT.1.more
     generalize v2.alloc (.cells #[.int .i8 0, .int .i64 0, .int .i8 0, .int .i64 0] 26) = v3 at *
     generalize v2.heap.size = gH3 at *
     refine hK.out _ _ HT.1.s (fun hH => ?_)
     clear hK K
     try simp only [pt]
     refine rd [6, 7] ?_
     refine .cons (dropAt rfl) (fun K hK => ?_) (.cons (dropAt rfl) (fun K hK => ?_) .nil)
     focus
      clear hH
      go_simp
      have HT := Kp.mk HT.1.more
      generalize v3.alloc (.cells #[.int .i8 0, .int .i64 0, .int .i8 0, .int .i64 0] 26) = v4 at *
      generalize v3.heap.size = gH4 at *
      refine hK.out _ _ HT.1.s (fun hH => ?_)
      clear hK K
      try simp only [pt]
      refine rd [7] ?_
      refine .cons (dropAt rfl) (fun K hK => ?_) .nil
      focus
       clear hH
       go_simp
       have HT := Kp.mk HT.1.more
       generalize v4.alloc (.cells #[.int .i8 0, .int .i64 0, .int .i8 0, .int .i64 0] 26) = vE at *
       generalize v4.heap.size = gH5 at *
       refine hK.out _ _ HT.1.s (fun hH => ?_)
       clear hK K
       try simp only [pt]
     rotate_left 1
     focus
      clear hH
      go_simp
      have HT := Kp.mk HT.1.more
      generalize v3.alloc (.cells #[.int .i8 0, .int .i64 0, .int .i8 0, .int .i64 0] 26) = v5 at *
      generalize v3.heap.size = gH5 at *
      refine hK.out _ _ HT.1.s (fun hH => ?_)
      clear hK K
      try simp only [pt]
      refine rd [6] ?_
      refine .cons (dropAt rfl) (fun K hK => ?_) .nil
      focus
       clear hH
       go_simp
       have HT := Kp.mk HT.1.more
       generalize v5.alloc (.cells #[.int .i8 0, .int .i64 0, .int .i8 0, .int .i64 0] 26) = vE at *
       generalize v5.heap.size = gH4 at *
       refine hK.out _ _ HT.1.s (fun hH => ?_)
       clear hK K
       try simp only [pt]
     rotate_left 1
    rotate_left 2
    focus
     clear hH
     go_simp
     have HT := Kp.mk HT.1.more
     generalize v2.alloc (.cells #[.int .i8 0, .int .i64 0, .int .i8 0, .int .i64 0] 26) = v6 at *
     generalize v2.heap.size = gH4 at *
     refine hK.out _ _ HT.1.s (fun hH => ?_)
     clear hK K
     try simp only [pt]
     refine rd [5, 7] ?_
     refine .cons (dropAt rfl) (fun K hK => ?_) (.cons (dropAt rfl) (fun K hK => ?_) .nil)
     focus
      clear hH
      go_simp
      have HT := Kp.mk HT.1.more
      generalize v6.alloc (.cells #[.int .i8 0, .int .i64 0, .int .i8 0, .int .i64 0] 26) = v7 at *
      generalize v6.heap.size = gH3 at *
      refine hK.out _ _ HT.1.s (fun hH => ?_)
      clear hK K
      try simp only [pt]
      refine rd [7] ?_
      refine .cons (dropAt rfl) (fun K hK => ?_) .nil
      focus
       clear hH
       go_simp
       have HT := Kp.mk HT.1.more
       generalize v7.alloc (.cells #[.int .i8 0, .int .i64 0, .int .i8 0, .int .i64 0] 26) = vE at *
       generalize v7.heap.size = gH5 at *
       refine hK.out _ _ HT.1.s (fun hH => ?_)
       clear hK K
       try simp only [pt]
     rotate_left 1
     focus
      clear hH
      go_simp
      have HT := Kp.mk HT.1.more
      generalize v6.alloc (.cells #[.int .i8 0, .int .i64 0, .int .i8 0, .int .i64 0] 26) = v8 at *
      generalize v6.heap.size = gH5 at *
      refine hK.out _ _ HT.1.s (fun hH => ?_)
      clear hK K
      try simp only [pt]
      refine rd [5] ?_
      refine .cons (dropAt rfl) (fun K hK => ?_) .nil
      focus
       clear hH
       go_simp
       have HT := Kp.mk HT.1.more
       generalize v8.alloc (.cells #[.int .i8 0, .int .i64 0, .int .i8 0, .int .i64 0] 26) = vE at *
       generalize v8.heap.size = gH3 at *
       refine hK.out _ _ HT.1.s (fun hH => ?_)
       clear hK K
       try simp only [pt]
     rotate_left 1
    rotate_left 2
    focus
     clear hH
     go_simp
     have HT := Kp.mk HT.1.more
     generalize v2.alloc (.cells #[.int .i8 0, .int .i64 0, .int .i8 0, .int .i64 0] 26) = v9 at *
     generalize v2.heap.size = gH5 at *
     refine hK.out _ _ HT.1.s (fun hH => ?_)
     clear hK K
     try simp only [pt]
     refine rd [5, 6] ?_
     refine .cons (dropAt rfl) (fun K hK => ?_) (.cons (dropAt rfl) (fun K hK => ?_) .nil)
     focus
      clear hH
      go_simp
      have HT := Kp.mk HT.1.more
      generalize v9.alloc (.cells #[.int .i8 0, .int .i64 0, .int .i8 0, .int .i64 0] 26) = v10 at *
      generalize v9.heap.size = gH3 at *
      refine hK.out _ _ HT.1.s (fun hH => ?_)
      clear hK K
      try simp only [pt]
      refine rd [6] ?_
      refine .cons (dropAt rfl) (fun K hK => ?_) .nil
      focus
       clear hH
       go_simp
       have HT := Kp.mk HT.1.more
       generalize v10.alloc (.cells #[.int .i8 0, .int .i64 0, .int .i8 0, .int .i64 0] 26) = vE at *
       generalize v10.heap.size = gH4 at *
       refine hK.out _ _ HT.1.s (fun hH => ?_)
       clear hK K
       try simp only [pt]
     rotate_left 1
     focus
      clear hH
      go_simp
      have HT := Kp.mk HT.1.more
      generalize v9.alloc (.cells #[.int .i8 0, .int .i64 0, .int .i8 0, .int .i64 0] 26) = v11 at *
      generalize v9.heap.size = gH4 at *
      refine hK.out _ _ HT.1.s (fun hH => ?_)
      clear hK K
      try simp only [pt]
      refine rd [5] ?_
      refine .cons (dropAt rfl) (fun K hK => ?_) .nil
      focus
       clear hH
       go_simp
       have HT := Kp.mk HT.1.more
       generalize v11.alloc (.cells #[.int .i8 0, .int .i64 0, .int .i8 0, .int .i64 0] 26) = vE at *
       generalize v11.heap.size = gH3 at *
       refine hK.out _ _ HT.1.s (fun hH => ?_)
       clear hK K
       try simp only [pt]
     rotate_left 1
    rotate_left 2
   rotate_left 6
   focus
    clear hH
    go_simp
    have HT := Kp.mk HT.1.more
    generalize v1.alloc (.cells #[.int .i8 0, .int .i64 0, .int .i8 0, .int .i64 0] 26) = v12 at *
    generalize v1.heap.size = gH3 at *
    refine hK.out _ _ HT.1.s (fun hH => ?_)
    clear hK K
    try simp only [pt]
    refine rd [1, 6, 7] ?_
    refine .cons (dropAt rfl) (fun K hK => ?_) (.cons (dropAt rfl) (fun K hK => ?_) (.cons (dropAt rfl) (fun K hK => ?_) .nil))
    focus
     clear hH
     go_simp
     go_at_call 29
     refine (y45.1 _).mono ?_
     rintro e v13 ⟨rfl, hb⟩
     have HT := Kp.mk (HT.1.step hb)
     clear hb
     go_wp2_with fail
     refine hK.out _ _ HT.1.s (fun hH => ?_)
     clear hK K
     try simp only [pt]
     refine rd [6, 7] ?_
     refine .cons (dropAt rfl) (fun K hK => ?_) (.cons (dropAt rfl) (fun K hK => ?_) .nil)
     focus
      clear hH
      go_simp
      have HT := Kp.mk HT.1.more
      generalize v13.alloc (.cells #[.int .i8 0, .int .i64 0, .int .i8 0, .int .i64 0] 26) = v14 at *
      generalize v13.heap.size = gH4 at *
      refine hK.out _ _ HT.1.s (fun hH => ?_)
      clear hK K
      try simp only [pt]
      refine rd [7] ?_
      refine .cons (dropAt rfl) (fun K hK => ?_) .nil
      focus
       clear hH
       go_simp
       have HT := Kp.mk HT.1.more
       generalize v14.alloc (.cells #[.int .i8 0, .int .i64 0, .int .i8 0, .int .i64 0] 26) = vE at *
       generalize v14.heap.size = gH5 at *
       refine hK.out _ _ HT.1.s (fun hH => ?_)
       clear hK K
       try simp only [pt]
     rotate_left 1
     focus
      clear hH
      go_simp
      have HT := Kp.mk HT.1.more
      generalize v13.alloc (.cells #[.int .i8 0, .int .i64 0, .int .i8 0, .int .i64 0] 26) = v15 at *
      generalize v13.heap.size = gH5 at *
      refine hK.out _ _ HT.1.s (fun hH => ?_)
      clear hK K
      try simp only [pt]
      refine rd [6] ?_
      refine .cons (dropAt rfl) (fun K hK => ?_) .nil
      focus
       clear hH
       go_simp
       have HT := Kp.mk HT.1.more
       generalize v15.alloc (.cells #[.int .i8 0, .int .i64 0, .int .i8 0, .int .i64 0] 26) = vE at *
       generalize v15.heap.size = gH4 at *
       refine hK.out _ _ HT.1.s (fun hH => ?_)
       clear hK K
       try simp only [pt]
     rotate_left 1
    rotate_left 2
    focus
     clear hH
     go_simp
     have HT := Kp.mk HT.1.more
     generalize v12.alloc (.cells #[.int .i8 0, .int .i64 0, .int .i8 0, .int .i64 0] 26) = v16 at *
     generalize v12.heap.size = gH4 at *
     refine hK.out _ _ HT.1.s (fun hH => ?_)
     clear hK K
     try simp only [pt]
     refine rd [1, 7] ?_
     refine .cons (dropAt rfl) (fun K hK => ?_) (.cons (dropAt rfl) (fun K hK => ?_) .nil)
     focus
      clear hH
      go_simp
      go_at_call 29
      refine (y45.1 _).mono ?_
      rintro e v17 ⟨rfl, hb⟩
      have HT := Kp.mk (HT.1.step hb)
      clear hb
      go_wp2_with fail
      refine hK.out _ _ HT.1.s (fun hH => ?_)
      clear hK K
      try simp only [pt]
      refine rd [7] ?_
      refine .cons (dropAt rfl) (fun K hK => ?_) .nil
      focus
       clear hH
       go_simp
       have HT := Kp.mk HT.1.more
       generalize v17.alloc (.cells #[.int .i8 0, .int .i64 0, .int .i8 0, .int .i64 0] 26) = vE at *
       generalize v17.heap.size = gH5 at *
       refine hK.out _ _ HT.1.s (fun hH => ?_)
       clear hK K
       try simp only [pt]
     rotate_left 1
     focus
      clear hH
      go_simp
      have HT := Kp.mk HT.1.more
      generalize v16.alloc (.cells #[.int .i8 0, .int .i64 0, .int .i8 0, .int .i64 0] 26) = v18 at *
      generalize v16.heap.size = gH5 at *
      refine hK.out _ _ HT.1.s (fun hH => ?_)
      clear hK K
      try simp only [pt]
      refine rd [1] ?_
      refine .cons (dropAt rfl) (fun K hK => ?_) .nil
      focus
       clear hH
       go_simp
       go_at_call 29
       refine (y45.1 _).mono ?_
       rintro e vE ⟨rfl, hb⟩
       have HT := Kp.mk (HT.1.step hb)
       clear hb
       go_wp2_with fail
       refine hK.out _ _ HT.1.s (fun hH => ?_)
       clear hK K
       try simp only [pt]
     rotate_left 1
    rotate_left 2
    focus
     clear hH
     go_simp
     have HT := Kp.mk HT.1.more
     generalize v12.alloc (.cells #[.int .i8 0, .int .i64 0, .int .i8 0, .int .i64 0] 26) = v19 at *
     generalize v12.heap.size = gH5 at *
     refine hK.out _ _ HT.1.s (fun hH => ?_)
     clear hK K
     try simp only [pt]
     refine rd [1, 6] ?_
     refine .cons (dropAt rfl) (fun K hK => ?_) (.cons (dropAt rfl) (fun K hK => ?_) .nil)
     focus
      clear hH
      go_simp
      go_at_call 29
      refine (y45.1 _).mono ?_
      rintro e v20 ⟨rfl, hb⟩
      have HT := Kp.mk (HT.1.step hb)
      clear hb
      go_wp2_with fail
      refine hK.out _ _ HT.1.s (fun hH => ?_)
      clear hK K
      try simp only [pt]
      refine rd [6] ?_
      refine .cons (dropAt rfl) (fun K hK => ?_) .nil
      focus
       clear hH
       go_simp
       have HT := Kp.mk HT.1.more
       generalize v20.alloc (.cells #[.int .i8 0, .int .i64 0, .int .i8 0, .int .i64 0] 26) = vE at *
       generalize v20.heap.size = gH4 at *
       refine hK.out _ _ HT.1.s (fun hH => ?_)
       clear hK K
       try simp only [pt]
     rotate_left 1
     focus
      clear hH
      go_simp
      have HT := Kp.mk HT.1.more
      generalize v19.alloc (.cells #[.int .i8 0, .int .i64 0, .int .i8 0, .int .i64 0] 26) = v21 at *
      generalize v19.heap.size = gH4 at *
      refine hK.out _ _ HT.1.s (fun hH => ?_)
      clear hK K
      try simp only [pt]
      refine rd [1] ?_
      refine .cons (dropAt rfl) (fun K hK => ?_) .nil
      focus
       clear hH
       go_simp
       go_at_call 29
       refine (y45.1 _).mono ?_
       rintro e vE ⟨rfl, hb⟩
       have HT := Kp.mk (HT.1.step hb)
       clear hb
       go_wp2_with fail
       refine hK.out _ _ HT.1.s (fun hH => ?_)
       clear hK K
       try simp only [pt]
     rotate_left 1
    rotate_left 2
   rotate_left 6
   focus
    clear hH
    go_simp
    have HT := Kp.mk HT.1.more
    generalize v1.alloc (.cells #[.int .i8 0, .int .i64 0, .int .i8 0, .int .i64 0] 26) = v22 at *
    generalize v1.heap.size = gH4 at *
    refine hK.out _ _ HT.1.s (fun hH => ?_)
    clear hK K
    try simp only [pt]
    refine rd [1, 5, 7] ?_
    refine .cons (dropAt rfl) (fun K hK => ?_) (.cons (dropAt rfl) (fun K hK => ?_) (.cons (dropAt rfl) (fun K hK => ?_) .nil))
    focus
     clear hH
     go_simp
     go_at_call 29
     refine (y45.1 _).mono ?_
     rintro e v23 ⟨rfl, hb⟩
     have HT := Kp.mk (HT.1.step hb)
     clear hb
     go_wp2_with fail
     refine hK.out _ _ HT.1.s (fun hH => ?_)
     clear hK K
     try simp only [pt]
     refine rd [5, 7] ?_
     refine .cons (dropAt rfl) (fun K hK => ?_) (.cons (dropAt rfl) (fun K hK => ?_) .nil)
     focus
      clear hH
      go_simp
      have HT := Kp.mk HT.1.more
      generalize v23.alloc (.cells #[.int .i8 0, .int .i64 0, .int .i8 0, .int .i64 0] 26) = v24 at *
      generalize v23.heap.size = gH3 at *
      refine hK.out _ _ HT.1.s (fun hH => ?_)
      clear hK K
      try simp only [pt]
      refine rd [7] ?_
      refine .cons (dropAt rfl) (fun K hK => ?_) .nil
      focus
       clear hH
       go_simp
       have HT := Kp.mk HT.1.more
       generalize v24.alloc (.cells #[.int .i8 0, .int .i64 0, .int .i8 0, .int .i64 0] 26) = vE at *
       generalize v24.heap.size = gH5 at *
       refine hK.out _ _ HT.1.s (fun hH => ?_)
       clear hK K
       try simp only [pt]
     rotate_left 1
     focus
      clear hH
      go_simp
      have HT := Kp.mk HT.1.more
      generalize v23.alloc (.cells #[.int .i8 0, .int .i64 0, .int .i8 0, .int .i64 0] 26) = v25 at *
      generalize v23.heap.size = gH5 at *
      refine hK.out _ _ HT.1.s (fun hH => ?_)
      clear hK K
      try simp only [pt]
      refine rd [5] ?_
      refine .cons (dropAt rfl) (fun K hK => ?_) .nil
      focus
       clear hH
       go_simp
       have HT := Kp.mk HT.1.more
       generalize v25.alloc (.cells #[.int .i8 0, .int .i64 0, .int .i8 0, .int .i64 0] 26) = vE at *
       generalize v25.heap.size = gH3 at *
       refine hK.out _ _ HT.1.s (fun hH => ?_)
       clear hK K
       try simp only [pt]
     rotate_left 1
    rotate_left 2
    focus
     clear hH
     go_simp
     have HT := Kp.mk HT.1.more
     generalize v22.alloc (.cells #[.int .i8 0, .int .i64 0, .int .i8 0, .int .i64 0] 26) = v26 at *
     generalize v22.heap.size = gH3 at *
     refine hK.out _ _ HT.1.s (fun hH => ?_)
     clear hK K
     try simp only [pt]
     refine rd [1, 7] ?_
     refine .cons (dropAt rfl) (fun K hK => ?_) (.cons (dropAt rfl) (fun K hK => ?_) .nil)
     focus
      clear hH
      go_simp
      go_at_call 29
      refine (y45.1 _).mono ?_
      rintro e v27 ⟨rfl, hb⟩
      have HT := Kp.mk (HT.1.step hb)
      clear hb
      go_wp2_with fail
      refine hK.out _ _ HT.1.s (fun hH => ?_)
      clear hK K
      try simp only [pt]
      refine rd [7] ?_
      refine .cons (dropAt rfl) (fun K hK => ?_) .nil
      focus
       clear hH
       go_simp
       have HT := Kp.mk HT.1.more
       generalize v27.alloc (.cells #[.int .i8 0, .int .i64 0, .int .i8 0, .int .i64 0] 26) = vE at *
       generalize v27.heap.size = gH5 at *
       refine hK.out _ _ HT.1.s (fun hH => ?_)
       clear hK K
       try simp only [pt]
     rotate_left 1
     focus
      clear hH
      go_simp
      have HT := Kp.mk HT.1.more
      generalize v26.alloc (.cells #[.int .i8 0, .int .i64 0, .int .i8 0, .int .i64 0] 26) = v28 at *
      generalize v26.heap.size = gH5 at *
      refine hK.out _ _ HT.1.s (fun hH => ?_)
      clear hK K
      try simp only [pt]
      refine rd [1] ?_
      refine .cons (dropAt rfl) (fun K hK => ?_) .nil
      focus
       clear hH
       go_simp
       go_at_call 29
       refine (y45.1 _).mono ?_
       rintro e vE ⟨rfl, hb⟩
       have HT := Kp.mk (HT.1.step hb)
       clear hb
       go_wp2_with fail
       refine hK.out _ _ HT.1.s (fun hH => ?_)
       clear hK K
       try simp only [pt]
     rotate_left 1
    rotate_left 2
    focus
     clear hH
     go_simp
     have HT := Kp.mk HT.1.more
     generalize v22.alloc (.cells #[.int .i8 0, .int .i64 0, .int .i8 0, .int .i64 0] 26) = v29 at *
     generalize v22.heap.size = gH5 at *
     refine hK.out _ _ HT.1.s (fun hH => ?_)
     clear hK K
     try simp only [pt]
     refine rd [1, 5] ?_
     refine .cons (dropAt rfl) (fun K hK => ?_) (.cons (dropAt rfl) (fun K hK => ?_) .nil)
     focus
      clear hH
      go_simp
      go_at_call 29
      refine (y45.1 _).mono ?_
      rintro e v30 ⟨rfl, hb⟩
      have HT := Kp.mk (HT.1.step hb)
      clear hb
      go_wp2_with fail
      refine hK.out _ _ HT.1.s (fun hH => ?_)
      clear hK K
      try simp only [pt]
      refine rd [5] ?_
      refine .cons (dropAt rfl) (fun K hK => ?_) .nil
      focus
       clear hH
       go_simp
       have HT := Kp.mk HT.1.more
       generalize v30.alloc (.cells #[.int .i8 0, .int .i64 0, .int .i8 0, .int .i64 0] 26) = vE at *
       generalize v30.heap.size = gH3 at *
       refine hK.out _ _ HT.1.s (fun hH => ?_)
       clear hK K
       try simp only [pt]
     rotate_left 1
     focus
      clear hH
      go_simp
      have HT := Kp.mk HT.1.more
      generalize v29.alloc (.cells #[.int .i8 0, .int .i64 0, .int .i8 0, .int .i64 0] 26) = v31 at *
      generalize v29.heap.size = gH3 at *
      refine hK.out _ _ HT.1.s (fun hH => ?_)
      clear hK K
      try simp only [pt]
      refine rd [1] ?_
      refine .cons (dropAt rfl) (fun K hK => ?_) .nil
      focus
       clear hH
       go_simp
       go_at_call 29
       refine (y45.1 _).mono ?_
       rintro e vE ⟨rfl, hb⟩
       have HT := Kp.mk (HT.1.step hb)
       clear hb
       go_wp2_with fail
       refine hK.out _ _ HT.1.s (fun hH => ?_)
       clear hK K
       try simp only [pt]
     rotate_left 1
    rotate_left 2
   rotate_left 6
   focus
    clear hH
    go_simp
    have HT := Kp.mk HT.1.more
    generalize v1.alloc (.cells #[.int .i8 0, .int .i64 0, .int .i8 0, .int .i64 0] 26) = v32 at *
    generalize v1.heap.size = gH5 at *
    refine hK.out _ _ HT.1.s (fun hH => ?_)
    clear hK K
    try simp only [pt]
    refine rd [1, 5, 6] ?_
    refine .cons (dropAt rfl) (fun K hK => ?_) (.cons (dropAt rfl) (fun K hK => ?_) (.cons (dropAt rfl) (fun K hK => ?_) .nil))
    focus
     clear hH
     go_simp
     go_at_call 29
     refine (y45.1 _).mono ?_
     rintro e v33 ⟨rfl, hb⟩
     have HT := Kp.mk (HT.1.step hb)
     clear hb
     go_wp2_with fail
     refine hK.out _ _ HT.1.s (fun hH => ?_)
     clear hK K
     try simp only [pt]
     refine rd [5, 6] ?_
     refine .cons (dropAt rfl) (fun K hK => ?_) (.cons (dropAt rfl) (fun K hK => ?_) .nil)
     focus
      clear hH
      go_simp
      have HT := Kp.mk HT.1.more
      generalize v33.alloc (.cells #[.int .i8 0, .int .i64 0, .int .i8 0, .int .i64 0] 26) = v34 at *
      generalize v33.heap.size = gH3 at *
      refine hK.out _ _ HT.1.s (fun hH => ?_)
      clear hK K
      try simp only [pt]
      refine rd [6] ?_
      refine .cons (dropAt rfl) (fun K hK => ?_) .nil
      focus
       clear hH
       go_simp
       have HT := Kp.mk HT.1.more
       generalize v34.alloc (.cells #[.int .i8 0, .int .i64 0, .int .i8 0, .int .i64 0] 26) = vE at *
       generalize v34.heap.size = gH4 at *
       refine hK.out _ _ HT.1.s (fun hH => ?_)
       clear hK K
       try simp only [pt]
     rotate_left 1
     focus
      clear hH
      go_simp
      have HT := Kp.mk HT.1.more
      generalize v33.alloc (.cells #[.int .i8 0, .int .i64 0, .int .i8 0, .int .i64 0] 26) = v35 at *
      generalize v33.heap.size = gH4 at *
      refine hK.out _ _ HT.1.s (fun hH => ?_)
      clear hK K
      try simp only [pt]
      refine rd [5] ?_
      refine .cons (dropAt rfl) (fun K hK => ?_) .nil
      focus
       clear hH
       go_simp
       have HT := Kp.mk HT.1.more
       generalize v35.alloc (.cells #[.int .i8 0, .int .i64 0, .int .i8 0, .int .i64 0] 26) = vE at *
       generalize v35.heap.size = gH3 at *
       refine hK.out _ _ HT.1.s (fun hH => ?_)
       clear hK K
       try simp only [pt]
     rotate_left 1
    rotate_left 2
    focus
     clear hH
     go_simp
     have HT := Kp.mk HT.1.more
     generalize v32.alloc (.cells #[.int .i8 0, .int .i64 0, .int .i8 0, .int .i64 0] 26) = v36 at *
     generalize v32.heap.size = gH3 at *
     refine hK.out _ _ HT.1.s (fun hH => ?_)
     clear hK K
     try simp only [pt]
     refine rd [1, 6] ?_
     refine .cons (dropAt rfl) (fun K hK => ?_) (.cons (dropAt rfl) (fun K hK => ?_) .nil)
     focus
      clear hH
      go_simp
      go_at_call 29
      refine (y45.1 _).mono ?_
      rintro e v37 ⟨rfl, hb⟩
      have HT := Kp.mk (HT.1.step hb)
      clear hb
      go_wp2_with fail
      refine hK.out _ _ HT.1.s (fun hH => ?_)
      clear hK K
      try simp only [pt]
      refine rd [6] ?_
      refine .cons (dropAt rfl) (fun K hK => ?_) .nil
      focus
       clear hH
       go_simp
       have HT := Kp.mk HT.1.more
       generalize v37.alloc (.cells #[.int .i8 0, .int .i64 0, .int .i8 0, .int .i64 0] 26) = vE at *
       generalize v37.heap.size = gH4 at *
       refine hK.out _ _ HT.1.s (fun hH => ?_)
       clear hK K
       try simp only [pt]
     rotate_left 1
     focus
      clear hH
      go_simp
      have HT := Kp.mk HT.1.more
      generalize v36.alloc (.cells #[.int .i8 0, .int .i64 0, .int .i8 0, .int .i64 0] 26) = v38 at *
      generalize v36.heap.size = gH4 at *
      refine hK.out _ _ HT.1.s (fun hH => ?_)
      clear hK K
      try simp only [pt]
      refine rd [1] ?_
      refine .cons (dropAt rfl) (fun K hK => ?_) .nil
      focus
       clear hH
       go_simp
       go_at_call 29
       refine (y45.1 _).mono ?_
       rintro e vE ⟨rfl, hb⟩
       have HT := Kp.mk (HT.1.step hb)
       clear hb
       go_wp2_with fail
       refine hK.out _ _ HT.1.s (fun hH => ?_)
       clear hK K
       try simp only [pt]
     rotate_left 1
    rotate_left 2
    focus
     clear hH
     go_simp
     have HT := Kp.mk HT.1.more
     generalize v32.alloc (.cells #[.int .i8 0, .int .i64 0, .int .i8 0, .int .i64 0] 26) = v39 at *
     generalize v32.heap.size = gH4 at *
     refine hK.out _ _ HT.1.s (fun hH => ?_)
     clear hK K
     try simp only [pt]
     refine rd [1, 5] ?_
     refine .cons (dropAt rfl) (fun K hK => ?_) (.cons (dropAt rfl) (fun K hK => ?_) .nil)
     focus
      clear hH
      go_simp
      go_at_call 29
      refine (y45.1 _).mono ?_
      rintro e v40 ⟨rfl, hb⟩
      have HT := Kp.mk (HT.1.step hb)
      clear hb
      go_wp2_with fail
      refine hK.out _ _ HT.1.s (fun hH => ?_)
      clear hK K
      try simp only [pt]
      refine rd [5] ?_
      refine .cons (dropAt rfl) (fun K hK => ?_) .nil
      focus
       clear hH
       go_simp
       have HT := Kp.mk HT.1.more
       generalize v40.alloc (.cells #[.int .i8 0, .int .i64 0, .int .i8 0, .int .i64 0] 26) = vE at *
       generalize v40.heap.size = gH3 at *
       refine hK.out _ _ HT.1.s (fun hH => ?_)
       clear hK K
       try simp only [pt]
     rotate_left 1
     focus
      clear hH
      go_simp
      have HT := Kp.mk HT.1.more
      generalize v39.alloc (.cells #[.int .i8 0, .int .i64 0, .int .i8 0, .int .i64 0] 26) = v41 at *
      generalize v39.heap.size = gH3 at *
      refine hK.out _ _ HT.1.s (fun hH => ?_)
      clear hK K
      try simp only [pt]
      refine rd [1] ?_
      refine .cons (dropAt rfl) (fun K hK => ?_) .nil
      focus
       clear hH
       go_simp
       go_at_call 29
       refine (y45.1 _).mono ?_
       rintro e vE ⟨rfl, hb⟩
       have HT := Kp.mk (HT.1.step hb)
       clear hb
       go_wp2_with fail
       refine hK.out _ _ HT.1.s (fun hH => ?_)
       clear hK K
       try simp only [pt]
     rotate_left 1
    rotate_left 2
   rotate_left 6
  rotate_left 24
  focus
   clear hH
   go_simp
   have HT := Kp.mk HT.1.more
   generalize vz.alloc (.cells #[.int .i8 0, .int .i64 0, .int .i8 0, .int .i64 0] 26) = v42 at *
   generalize vz.heap.size = gH3 at *
   refine hK.out _ _ HT.1.s (fun hH => ?_)
   clear hK K
   try simp only [pt]
   refine rd [0, 6, 7] ?_
   refine .cons (dropAt rfl) (fun K hK => ?_) (.cons (dropAt rfl) (fun K hK => ?_) (.cons (dropAt rfl) (fun K hK => ?_) .nil))
   focus
    clear hH
    go_simp
    go_at_call 29
    refine (y13.1 _).mono ?_
    rintro e v43 ⟨rfl, hb⟩
    have HT := Kp.mk (HT.1.step hb)
    clear hb
    go_wp2_with fail
    refine hK.out _ _ HT.1.s (fun hH => ?_)
    clear hK K
    try simp only [pt]
    refine rd [1, 6, 7] ?_
    refine .cons (dropAt rfl) (fun K hK => ?_) (.cons (dropAt rfl) (fun K hK => ?_) (.cons (dropAt rfl) (fun K hK => ?_) .nil))
    focus
     clear hH
     go_simp
     go_at_call 29
     refine (y45.1 _).mono ?_
     rintro e v44 ⟨rfl, hb⟩
     have HT := Kp.mk (HT.1.step hb)
     clear hb
     go_wp2_with fail
     refine hK.out _ _ HT.1.s (fun hH => ?_)
     clear hK K
     try simp only [pt]
     refine rd [6, 7] ?_
     refine .cons (dropAt rfl) (fun K hK => ?_) (.cons (dropAt rfl) (fun K hK => ?_) .nil)
     focus
      clear hH
      go_simp
      have HT := Kp.mk HT.1.more
      generalize v44.alloc (.cells #[.int .i8 0, .int .i64 0, .int .i8 0, .int .i64 0] 26) = v45 at *
      generalize v44.heap.size = gH4 at *
      refine hK.out _ _ HT.1.s (fun hH => ?_)
      clear hK K
      try simp only [pt]
      refine rd [7] ?_
      refine .cons (dropAt rfl) (fun K hK => ?_) .nil
      focus
       clear hH
       go_simp
       have HT := Kp.mk HT.1.more
       generalize v45.alloc (.cells #[.int .i8 0, .int .i64 0, .int .i8 0, .int .i64 0] 26) = vE at *
       generalize v45.heap.size = gH5 at *
       refine hK.out _ _ HT.1.s (fun hH => ?_)
       clear hK K
       try simp only [pt]
     rotate_left 1
     focus
      clear hH
      go_simp
      have HT := Kp.mk HT.1.more
      generalize v44.alloc (.cells #[.int .i8 0, .int .i64 0, .int .i8 0, .int .i64 0] 26) = v46 at *
      generalize v44.heap.size = gH5 at *
      refine hK.out _ _ HT.1.s (fun hH => ?_)
      clear hK K
      try simp only [pt]
      refine rd [6] ?_
      refine .cons (dropAt rfl) (fun K hK => ?_) .nil
      focus
       clear hH
       go_simp
       have HT := Kp.mk HT.1.more
       generalize v46.alloc (.cells #[.int .i8 0, .int .i64 0, .int .i8 0, .int .i64 0] 26) = vE at *
       generalize v46.heap.size = gH4 at *
       refine hK.out _ _ HT.1.s (fun hH => ?_)
       clear hK K
       try simp only [pt]
     rotate_left 1
    rotate_left 2
    focus
     clear hH
     go_simp
     have HT := Kp.mk HT.1.more
     generalize v43.alloc (.cells #[.int .i8 0, .int .i64 0, .int .i8 0, .int .i64 0] 26) = v47 at *
     generalize v43.heap.size = gH4 at *
     refine hK.out _ _ HT.1.s (fun hH => ?_)
     clear hK K
     try simp only [pt]
     refine rd [1, 7] ?_
     refine .cons (dropAt rfl) (fun K hK => ?_) (.cons (dropAt rfl) (fun K hK => ?_) .nil)
     focus
      clear hH
      go_simp
      go_at_call 29
      refine (y45.1 _).mono ?_
      rintro e v48 ⟨rfl, hb⟩
      have HT := Kp.mk (HT.1.step hb)
      clear hb
      go_wp2_with fail
      refine hK.out _ _ HT.1.s (fun hH => ?_)
      clear hK K
      try simp only [pt]
      refine rd [7] ?_
      refine .cons (dropAt rfl) (fun K hK => ?_) .nil
      focus
       clear hH
       go_simp
       have HT := Kp.mk HT.1.more
       generalize v48.alloc (.cells #[.int .i8 0, .int .i64 0, .int .i8 0, .int .i64 0] 26) = vE at *
       generalize v48.heap.size = gH5 at *
       refine hK.out _ _ HT.1.s (fun hH => ?_)
       clear hK K
       try simp only [pt]
     rotate_left 1
     focus
      clear hH
      go_simp
      have HT := Kp.mk HT.1.more
      generalize v47.alloc (.cells #[.int .i8 0, .int .i64 0, .int .i8 0, .int .i64 0] 26) = v49 at *
      generalize v47.heap.size = gH5 at *
      refine hK.out _ _ HT.1.s (fun hH => ?_)
      clear hK K
      try simp only [pt]
      refine rd [1] ?_
      refine .cons (dropAt rfl) (fun K hK => ?_) .nil
      focus
       clear hH
       go_simp
       go_at_call 29
       refine (y45.1 _).mono ?_
       rintro e vE ⟨rfl, hb⟩
       have HT := Kp.mk (HT.1.step hb)
       clear hb
       go_wp2_with fail
       refine hK.out _ _ HT.1.s (fun hH => ?_)
       clear hK K
       try simp only [pt]
     rotate_left 1
    rotate_left 2
    focus
     clear hH
     go_simp
     have HT := Kp.mk HT.1.more
     generalize v43.alloc (.cells #[.int .i8 0, .int .i64 0, .int .i8 0, .int .i64 0] 26) = v50 at *
     generalize v43.heap.size = gH5 at *
     refine hK.out _ _ HT.1.s (fun hH => ?_)
     clear hK K
     try simp only [pt]
     refine rd [1, 6] ?_
     refine .cons (dropAt rfl) (fun K hK => ?_) (.cons (dropAt rfl) (fun K hK => ?_) .nil)
     focus
      clear hH
      go_simp
      go_at_call 29
      refine (y45.1 _).mono ?_
      rintro e v51 ⟨rfl, hb⟩
      have HT := Kp.mk (HT.1.step hb)
      clear hb
      go_wp2_with fail
      refine hK.out _ _ HT.1.s (fun hH => ?_)
      clear hK K
      try simp only [pt]
      refine rd [6] ?_
      refine .cons (dropAt rfl) (fun K hK => ?_) .nil
      focus
       clear hH
       go_simp
       have HT := Kp.mk HT.1.more
       generalize v51.alloc (.cells #[.int .i8 0, .int .i64 0, .int .i8 0, .int .i64 0] 26) = vE at *
       generalize v51.heap.size = gH4 at *
       refine hK.out _ _ HT.1.s (fun hH => ?_)
       clear hK K
       try simp only [pt]
     rotate_left 1
     focus
      clear hH
      go_simp
      have HT := Kp.mk HT.1.more
      generalize v50.alloc (.cells #[.int .i8 0, .int .i64 0, .int .i8 0, .int .i64 0] 26) = v52 at *
      generalize v50.heap.size = gH4 at *
      refine hK.out _ _ HT.1.s (fun hH => ?_)
      clear hK K
      try simp only [pt]
      refine rd [1] ?_
      refine .cons (dropAt rfl) (fun K hK => ?_) .nil
      focus
       clear hH
       go_simp
       go_at_call 29
       refine (y45.1 _).mono ?_
       rintro e vE ⟨rfl, hb⟩
       have HT := Kp.mk (HT.1.step hb)
       clear hb
       go_wp2_with fail
       refine hK.out _ _ HT.1.s (fun hH => ?_)
       clear hK K
       try simp only [pt]
     rotate_left 1
    rotate_left 2
   rotate_left 6
   focus
    clear hH
    go_simp
    have HT := Kp.mk HT.1.more
    generalize v42.alloc (.cells #[.int .i8 0, .int .i64 0, .int .i8 0, .int .i64 0] 26) = v53 at *
    generalize v42.heap.size = gH4 at *
    refine hK.out _ _ HT.1.s (fun hH => ?_)
    clear hK K
    try simp only [pt]
    refine rd [0, 7] ?_
    refine .cons (dropAt rfl) (fun K hK => ?_) (.cons (dropAt rfl) (fun K hK => ?_) .nil)
    focus
     clear hH
     go_simp
     go_at_call 29
     refine (y13.1 _).mono ?_
     rintro e v54 ⟨rfl, hb⟩
     have HT := Kp.mk (HT.1.step hb)
     clear hb
     go_wp2_with fail
     refine hK.out _ _ HT.1.s (fun hH => ?_)
     clear hK K
     try simp only [pt]
     refine rd [1, 7] ?_
     refine .cons (dropAt rfl) (fun K hK => ?_) (.cons (dropAt rfl) (fun K hK => ?_) .nil)
     focus
      clear hH
      go_simp
      go_at_call 29
      refine (y45.1 _).mono ?_
      rintro e v55 ⟨rfl, hb⟩
      have HT := Kp.mk (HT.1.step hb)
      clear hb
      go_wp2_with fail
      refine hK.out _ _ HT.1.s (fun hH => ?_)
      clear hK K
      try simp only [pt]
      refine rd [7] ?_
      refine .cons (dropAt rfl) (fun K hK => ?_) .nil
      focus
       clear hH
       go_simp
       have HT := Kp.mk HT.1.more
       generalize v55.alloc (.cells #[.int .i8 0, .int .i64 0, .int .i8 0, .int .i64 0] 26) = vE at *
       generalize v55.heap.size = gH5 at *
       refine hK.out _ _ HT.1.s (fun hH => ?_)
       clear hK K
       try simp only [pt]
     rotate_left 1
     focus
      clear hH
      go_simp
      have HT := Kp.mk HT.1.more
      generalize v54.alloc (.cells #[.int .i8 0, .int .i64 0, .int .i8 0, .int .i64 0] 26) = v56 at *
      generalize v54.heap.size = gH5 at *
      refine hK.out _ _ HT.1.s (fun hH => ?_)
      clear hK K
      try simp only [pt]
      refine rd [1] ?_
      refine .cons (dropAt rfl) (fun K hK => ?_) .nil
      focus
       clear hH
       go_simp
       go_at_call 29
       refine (y45.1 _).mono ?_
       rintro e vE ⟨rfl, hb⟩
       have HT := Kp.mk (HT.1.step hb)
       clear hb
       go_wp2_with fail
       refine hK.out _ _ HT.1.s (fun hH => ?_)
       clear hK K
       try simp only [pt]
     rotate_left 1
    rotate_left 2
    focus
     clear hH
     go_simp
     have HT := Kp.mk HT.1.more
     generalize v53.alloc (.cells #[.int .i8 0, .int .i64 0, .int .i8 0, .int .i64 0] 26) = v57 at *
     generalize v53.heap.size = gH5 at *
     refine hK.out _ _ HT.1.s (fun hH => ?_)
     clear hK K
     try simp only [pt]
     refine rd [0] ?_
     refine .cons (dropAt rfl) (fun K hK => ?_) .nil
     focus
      clear hH
      go_simp
      go_at_call 29
      refine (y13.1 _).mono ?_
      rintro e v58 ⟨rfl, hb⟩
      have HT := Kp.mk (HT.1.step hb)
      clear hb
      go_wp2_with fail
      refine hK.out _ _ HT.1.s (fun hH => ?_)
      clear hK K
      try simp only [pt]
      refine rd [1] ?_
      refine .cons (dropAt rfl) (fun K hK => ?_) .nil
      focus
       clear hH
       go_simp
       go_at_call 29
       refine (y45.1 _).mono ?_
       rintro e vE ⟨rfl, hb⟩
       have HT := Kp.mk (HT.1.step hb)
       clear hb
       go_wp2_with fail
       refine hK.out _ _ HT.1.s (fun hH => ?_)
       clear hK K
       try simp only [pt]
    rotate_left 1
   rotate_left 3
   focus
    clear hH
    go_simp
    have HT := Kp.mk HT.1.more
    generalize v42.alloc (.cells #[.int .i8 0, .int .i64 0, .int .i8 0, .int .i64 0] 26) = v59 at *
    generalize v42.heap.size = gH5 at *
    refine hK.out _ _ HT.1.s (fun hH => ?_)
    clear hK K
    try simp only [pt]
    refine rd [0, 6] ?_
    refine .cons (dropAt rfl) (fun K hK => ?_) (.cons (dropAt rfl) (fun K hK => ?_) .nil)
    focus
     clear hH
     go_simp
     go_at_call 29
     refine (y13.1 _).mono ?_
     rintro e v60 ⟨rfl, hb⟩
     have HT := Kp.mk (HT.1.step hb)
     clear hb
     go_wp2_with fail
     refine hK.out _ _ HT.1.s (fun hH => ?_)
     clear hK K
     try simp only [pt]
     refine rd [1, 6] ?_
     refine .cons (dropAt rfl) (fun K hK => ?_) (.cons (dropAt rfl) (fun K hK => ?_) .nil)
     focus
      clear hH
      go_simp
      go_at_call 29
      refine (y45.1 _).mono ?_
      rintro e v61 ⟨rfl, hb⟩
      have HT := Kp.mk (HT.1.step hb)
      clear hb
      go_wp2_with fail
      refine hK.out _ _ HT.1.s (fun hH => ?_)
      clear hK K
      try simp only [pt]
      refine rd [6] ?_
      refine .cons (dropAt rfl) (fun K hK => ?_) .nil
      focus
       clear hH
       go_simp
       have HT := Kp.mk HT.1.more
       generalize v61.alloc (.cells #[.int .i8 0, .int .i64 0, .int .i8 0, .int .i64 0] 26) = vE at *
       generalize v61.heap.size = gH4 at *
       refine hK.out _ _ HT.1.s (fun hH => ?_)
       clear hK K
       try simp only [pt]
     rotate_left 1
     focus
      clear hH
      go_simp
      have HT := Kp.mk HT.1.more
      generalize v60.alloc (.cells #[.int .i8 0, .int .i64 0, .int .i8 0, .int .i64 0] 26) = v62 at *
      generalize v60.heap.size = gH4 at *
      refine hK.out _ _ HT.1.s (fun hH => ?_)
      clear hK K
      try simp only [pt]
      refine rd [1] ?_
      refine .cons (dropAt rfl) (fun K hK => ?_) .nil
      focus
       clear hH
       go_simp
       go_at_call 29
       refine (y45.1 _).mono ?_
       rintro e vE ⟨rfl, hb⟩
       have HT := Kp.mk (HT.1.step hb)
       clear hb
       go_wp2_with fail
       refine hK.out _ _ HT.1.s (fun hH => ?_)
       clear hK K
       try simp only [pt]
     rotate_left 1
    rotate_left 2
    focus
     clear hH
     go_simp
     have HT := Kp.mk HT.1.more
     generalize v59.alloc (.cells #[.int .i8 0, .int .i64 0, .int .i8 0, .int .i64 0] 26) = v63 at *
     generalize v59.heap.size = gH4 at *
     refine hK.out _ _ HT.1.s (fun hH => ?_)
     clear hK K
     try simp only [pt]
     refine rd [0] ?_
     refine .cons (dropAt rfl) (fun K hK => ?_) .nil
     focus
      clear hH
      go_simp
      go_at_call 29
      refine (y13.1 _).mono ?_
      rintro e v64 ⟨rfl, hb⟩
      have HT := Kp.mk (HT.1.step hb)
      clear hb
      go_wp2_with fail
      refine hK.out _ _ HT.1.s (fun hH => ?_)
      clear hK K
      try simp only [pt]
      refine rd [1] ?_
      refine .cons (dropAt rfl) (fun K hK => ?_) .nil
      focus
       clear hH
       go_simp
       go_at_call 29
       refine (y45.1 _).mono ?_
       rintro e vE ⟨rfl, hb⟩
       have HT := Kp.mk (HT.1.step hb)
       clear hb
       go_wp2_with fail
       refine hK.out _ _ HT.1.s (fun hH => ?_)
       clear hK K
       try simp only [pt]
    rotate_left 1
   rotate_left 3
  rotate_left 12
  focus
   clear hH
   go_simp
   have HT := Kp.mk HT.1.more
   generalize vz.alloc (.cells #[.int .i8 0, .int .i64 0, .int .i8 0, .int .i64 0] 26) = v65 at *
   generalize vz.heap.size = gH4 at *
   refine hK.out _ _ HT.1.s (fun hH => ?_)
   clear hK K
   try simp only [pt]
   refine rd [0, 5, 7] ?_
   refine .cons (dropAt rfl) (fun K hK => ?_) (.cons (dropAt rfl) (fun K hK => ?_) (.cons (dropAt rfl) (fun K hK => ?_) .nil))
   focus
    clear hH
    go_simp
    go_at_call 29
    refine (y13.1 _).mono ?_
    rintro e v66 ⟨rfl, hb⟩
    have HT := Kp.mk (HT.1.step hb)
    clear hb
    go_wp2_with fail
    refine hK.out _ _ HT.1.s (fun hH => ?_)
    clear hK K
    try simp only [pt]
    refine rd [1, 5, 7] ?_
    refine .cons (dropAt rfl) (fun K hK => ?_) (.cons (dropAt rfl) (fun K hK => ?_) (.cons (dropAt rfl) (fun K hK => ?_) .nil))
    focus
     clear hH
     go_simp
     go_at_call 29
     refine (y45.1 _).mono ?_
     rintro e v67 ⟨rfl, hb⟩
     have HT := Kp.mk (HT.1.step hb)
     clear hb
     go_wp2_with fail
     refine hK.out _ _ HT.1.s (fun hH => ?_)
     clear hK K
     try simp only [pt]
     refine rd [5, 7] ?_
     refine .cons (dropAt rfl) (fun K hK => ?_) (.cons (dropAt rfl) (fun K hK => ?_) .nil)
     focus
      clear hH
      go_simp
      have HT := Kp.mk HT.1.more
      generalize v67.alloc (.cells #[.int .i8 0, .int .i64 0, .int .i8 0, .int .i64 0] 26) = v68 at *
      generalize v67.heap.size = gH3 at *
      refine hK.out _ _ HT.1.s (fun hH => ?_)
      clear hK K
      try simp only [pt]
      refine rd [7] ?_
      refine .cons (dropAt rfl) (fun K hK => ?_) .nil
      focus
       clear hH
       go_simp
       have HT := Kp.mk HT.1.more
       generalize v68.alloc (.cells #[.int .i8 0, .int .i64 0, .int .i8 0, .int .i64 0] 26) = vE at *
       generalize v68.heap.size = gH5 at *
       refine hK.out _ _ HT.1.s (fun hH => ?_)
       clear hK K
       try simp only [pt]
     rotate_left 1
     focus
      clear hH
      go_simp
      have HT := Kp.mk HT.1.more
      generalize v67.alloc (.cells #[.int .i8 0, .int .i64 0, .int .i8 0, .int .i64 0] 26) = v69 at *
      generalize v67.heap.size = gH5 at *
      refine hK.out _ _ HT.1.s (fun hH => ?_)
      clear hK K
      try simp only [pt]
      refine rd [5] ?_
      refine .cons (dropAt rfl) (fun K hK => ?_) .nil
      focus
       clear hH
       go_simp
       have HT := Kp.mk HT.1.more
       generalize v69.alloc (.cells #[.int .i8 0, .int .i64 0, .int .i8 0, .int .i64 0] 26) = vE at *
       generalize v69.heap.size = gH3 at *
       refine hK.out _ _ HT.1.s (fun hH => ?_)
       clear hK K
       try simp only [pt]
     rotate_left 1
    rotate_left 2
    focus
     clear hH
     go_simp
     have HT := Kp.mk HT.1.more
     generalize v66.alloc (.cells #[.int .i8 0, .int .i64 0, .int .i8 0, .int .i64 0] 26) = v70 at *
     generalize v66.heap.size = gH3 at *
     refine hK.out _ _ HT.1.s (fun hH => ?_)
     clear hK K
     try simp only [pt]
     refine rd [1, 7] ?_
     refine .cons (dropAt rfl) (fun K hK => ?_) (.cons (dropAt rfl) (fun K hK => ?_) .nil)
     focus
      clear hH
      go_simp
      go_at_call 29
      refine (y45.1 _).mono ?_
      rintro e v71 ⟨rfl, hb⟩
      have HT := Kp.mk (HT.1.step hb)
      clear hb
      go_wp2_with fail
      refine hK.out _ _ HT.1.s (fun hH => ?_)
      clear hK K
      try simp only [pt]
      refine rd [7] ?_
      refine .cons (dropAt rfl) (fun K hK => ?_) .nil
      focus
       clear hH
       go_simp
       have HT := Kp.mk HT.1.more
       generalize v71.alloc (.cells #[.int .i8 0, .int .i64 0, .int .i8 0, .int .i64 0] 26) = vE at *
       generalize v71.heap.size = gH5 at *
       refine hK.out _ _ HT.1.s (fun hH => ?_)
       clear hK K
       try simp only [pt]
     rotate_left 1
     focus
      clear hH
      go_simp
      have HT := Kp.mk HT.1.more
      generalize v70.alloc (.cells #[.int .i8 0, .int .i64 0, .int .i8 0, .int .i64 0] 26) = v72 at *
      generalize v70.heap.size = gH5 at *
      refine hK.out _ _ HT.1.s (fun hH => ?_)
      clear hK K
      try simp only [pt]
      refine rd [1] ?_
      refine .cons (dropAt rfl) (fun K hK => ?_) .nil
      focus
       clear hH
       go_simp
       go_at_call 29
       refine (y45.1 _).mono ?_
       rintro e vE ⟨rfl, hb⟩
       have HT := Kp.mk (HT.1.step hb)
       clear hb
       go_wp2_with fail
       refine hK.out _ _ HT.1.s (fun hH => ?_)
       clear hK K
       try simp only [pt]
     rotate_left 1
    rotate_left 2
    focus
     clear hH
     go_simp
     have HT := Kp.mk HT.1.more
     generalize v66.alloc (.cells #[.int .i8 0, .int .i64 0, .int .i8 0, .int .i64 0] 26) = v73 at *
     generalize v66.heap.size = gH5 at *
     refine hK.out _ _ HT.1.s (fun hH => ?_)
     clear hK K
     try simp only [pt]
     refine rd [1, 5] ?_
     refine .cons (dropAt rfl) (fun K hK => ?_) (.cons (dropAt rfl) (fun K hK => ?_) .nil)
     focus
      clear hH
      go_simp
      go_at_call 29
      refine (y45.1 _).mono ?_
      rintro e v74 ⟨rfl, hb⟩
      have HT := Kp.mk (HT.1.step hb)
      clear hb
      go_wp2_with fail
      refine hK.out _ _ HT.1.s (fun hH => ?_)
      clear hK K
      try simp only [pt]
      refine rd [5] ?_
      refine .cons (dropAt rfl) (fun K hK => ?_) .nil
      focus
       clear hH
       go_simp
       have HT := Kp.mk HT.1.more
       generalize v74.alloc (.cells #[.int .i8 0, .int .i64 0, .int .i8 0, .int .i64 0] 26) = vE at *
       generalize v74.heap.size = gH3 at *
       refine hK.out _ _ HT.1.s (fun hH => ?_)
       clear hK K
       try simp only [pt]
     rotate_left 1
     focus
      clear hH
      go_simp
      have HT := Kp.mk HT.1.more
      generalize v73.alloc (.cells #[.int .i8 0, .int .i64 0, .int .i8 0, .int .i64 0] 26) = v75 at *
      generalize v73.heap.size = gH3 at *
      refine hK.out _ _ HT.1.s (fun hH => ?_)
      clear hK K
      try simp only [pt]
      refine rd [1] ?_
      refine .cons (dropAt rfl) (fun K hK => ?_) .nil
      focus
       clear hH
       go_simp
       go_at_call 29
       refine (y45.1 _).mono ?_
       rintro e vE ⟨rfl, hb⟩
       have HT := Kp.mk (HT.1.step hb)
       clear hb
       go_wp2_with fail
       refine hK.out _ _ HT.1.s (fun hH => ?_)
       clear hK K
       try simp only [pt]
     rotate_left 1
    rotate_left 2
   rotate_left 6
   focus
    clear hH
    go_simp
    have HT := Kp.mk HT.1.more
    generalize v65.alloc (.cells #[.int .i8 0, .int .i64 0, .int .i8 0, .int .i64 0] 26) = v76 at *
    generalize v65.heap.size = gH3 at *
    refine hK.out _ _ HT.1.s (fun hH => ?_)
    clear hK K
    try simp only [pt]
    refine rd [0, 7] ?_
    refine .cons (dropAt rfl) (fun K hK => ?_) (.cons (dropAt rfl) (fun K hK => ?_) .nil)
    focus
     clear hH
     go_simp
     go_at_call 29
     refine (y13.1 _).mono ?_
     rintro e v77 ⟨rfl, hb⟩
     have HT := Kp.mk (HT.1.step hb)
     clear hb
     go_wp2_with fail
     refine hK.out _ _ HT.1.s (fun hH => ?_)
     clear hK K
     try simp only [pt]
     refine rd [1, 7] ?_
     refine .cons (dropAt rfl) (fun K hK => ?_) (.cons (dropAt rfl) (fun K hK => ?_) .nil)
     focus
      clear hH
      go_simp
      go_at_call 29
      refine (y45.1 _).mono ?_
      rintro e v78 ⟨rfl, hb⟩
      have HT := Kp.mk (HT.1.step hb)
      clear hb
      go_wp2_with fail
      refine hK.out _ _ HT.1.s (fun hH => ?_)
      clear hK K
      try simp only [pt]
      refine rd [7] ?_
      refine .cons (dropAt rfl) (fun K hK => ?_) .nil
      focus
       clear hH
       go_simp
       have HT := Kp.mk HT.1.more
       generalize v78.alloc (.cells #[.int .i8 0, .int .i64 0, .int .i8 0, .int .i64 0] 26) = vE at *
       generalize v78.heap.size = gH5 at *
       refine hK.out _ _ HT.1.s (fun hH => ?_)
       clear hK K
       try simp only [pt]
     rotate_left 1
     focus
      clear hH
      go_simp
      have HT := Kp.mk HT.1.more
      generalize v77.alloc (.cells #[.int .i8 0, .int .i64 0, .int .i8 0, .int .i64 0] 26) = v79 at *
      generalize v77.heap.size = gH5 at *
      refine hK.out _ _ HT.1.s (fun hH => ?_)
      clear hK K
      try simp only [pt]
      refine rd [1] ?_
      refine .cons (dropAt rfl) (fun K hK => ?_) .nil
      focus
       clear hH
       go_simp
       go_at_call 29
       refine (y45.1 _).mono ?_
       rintro e vE ⟨rfl, hb⟩
       have HT := Kp.mk (HT.1.step hb)
       clear hb
       go_wp2_with fail
       refine hK.out _ _ HT.1.s (fun hH => ?_)
       clear hK K
       try simp only [pt]
     rotate_left 1
    rotate_left 2
    focus
     clear hH
     go_simp
     have HT := Kp.mk HT.1.more
     generalize v76.alloc (.cells #[.int .i8 0, .int .i64 0, .int .i8 0, .int .i64 0] 26) = v80 at *
     generalize v76.heap.size = gH5 at *
     refine hK.out _ _ HT.1.s (fun hH => ?_)
     clear hK K
     try simp only [pt]
     refine rd [0] ?_
     refine .cons (dropAt rfl) (fun K hK => ?_) .nil
     focus
      clear hH
      go_simp
      go_at_call 29
      refine (y13.1 _).mono ?_
      rintro e v81 ⟨rfl, hb⟩
      have HT := Kp.mk (HT.1.step hb)
      clear hb
      go_wp2_with fail
      refine hK.out _ _ HT.1.s (fun hH => ?_)
      clear hK K
      try simp only [pt]
      refine rd [1] ?_
      refine .cons (dropAt rfl) (fun K hK => ?_) .nil
      focus
       clear hH
       go_simp
       go_at_call 29
       refine (y45.1 _).mono ?_
       rintro e vE ⟨rfl, hb⟩
       have HT := Kp.mk (HT.1.step hb)
       clear hb
       go_wp2_with fail
       refine hK.out _ _ HT.1.s (fun hH => ?_)
       clear hK K
       try simp only [pt]
    rotate_left 1
   rotate_left 3
   focus
    clear hH
    go_simp
    have HT := Kp.mk HT.1.more
    generalize v65.alloc (.cells #[.int .i8 0, .int .i64 0, .int .i8 0, .int .i64 0] 26) = v82 at *
    generalize v65.heap.size = gH5 at *
    refine hK.out _ _ HT.1.s (fun hH => ?_)
    clear hK K
    try simp only [pt]
    refine rd [0, 5] ?_
    refine .cons (dropAt rfl) (fun K hK => ?_) (.cons (dropAt rfl) (fun K hK => ?_) .nil)
    focus
     clear hH
     go_simp
     go_at_call 29
     refine (y13.1 _).mono ?_
     rintro e v83 ⟨rfl, hb⟩
     have HT := Kp.mk (HT.1.step hb)
     clear hb
     go_wp2_with fail
     refine hK.out _ _ HT.1.s (fun hH => ?_)
     clear hK K
     try simp only [pt]
     refine rd [1, 5] ?_
     refine .cons (dropAt rfl) (fun K hK => ?_) (.cons (dropAt rfl) (fun K hK => ?_) .nil)
     focus
      clear hH
      go_simp
      go_at_call 29
      refine (y45.1 _).mono ?_
      rintro e v84 ⟨rfl, hb⟩
      have HT := Kp.mk (HT.1.step hb)
      clear hb
      go_wp2_with fail
      refine hK.out _ _ HT.1.s (fun hH => ?_)
      clear hK K
      try simp only [pt]
      refine rd [5] ?_
      refine .cons (dropAt rfl) (fun K hK => ?_) .nil
      focus
       clear hH
       go_simp
       have HT := Kp.mk HT.1.more
       generalize v84.alloc (.cells #[.int .i8 0, .int .i64 0, .int .i8 0, .int .i64 0] 26) = vE at *
       generalize v84.heap.size = gH3 at *
       refine hK.out _ _ HT.1.s (fun hH => ?_)
       clear hK K
       try simp only [pt]
     rotate_left 1
     focus
      clear hH
      go_simp
      have HT := Kp.mk HT.1.more
      generalize v83.alloc (.cells #[.int .i8 0, .int .i64 0, .int .i8 0, .int .i64 0] 26) = v85 at *
      generalize v83.heap.size = gH3 at *
      refine hK.out _ _ HT.1.s (fun hH => ?_)
      clear hK K
      try simp only [pt]
      refine rd [1] ?_
      refine .cons (dropAt rfl) (fun K hK => ?_) .nil
      focus
       clear hH
       go_simp
       go_at_call 29
       refine (y45.1 _).mono ?_
       rintro e vE ⟨rfl, hb⟩
       have HT := Kp.mk (HT.1.step hb)
       clear hb
       go_wp2_with fail
       refine hK.out _ _ HT.1.s (fun hH => ?_)
       clear hK K
       try simp only [pt]
     rotate_left 1
    rotate_left 2
    focus
     clear hH
     go_simp
     have HT := Kp.mk HT.1.more
     generalize v82.alloc (.cells #[.int .i8 0, .int .i64 0, .int .i8 0, .int .i64 0] 26) = v86 at *
     generalize v82.heap.size = gH3 at *
     refine hK.out _ _ HT.1.s (fun hH => ?_)
     clear hK K
     try simp only [pt]
     refine rd [0] ?_
     refine .cons (dropAt rfl) (fun K hK => ?_) .nil
     focus
      clear hH
      go_simp
      go_at_call 29
      refine (y13.1 _).mono ?_
      rintro e v87 ⟨rfl, hb⟩
      have HT := Kp.mk (HT.1.step hb)
      clear hb
      go_wp2_with fail
      refine hK.out _ _ HT.1.s (fun hH => ?_)
      clear hK K
      try simp only [pt]
      refine rd [1] ?_
      refine .cons (dropAt rfl) (fun K hK => ?_) .nil
      focus
       clear hH
       go_simp
       go_at_call 29
       refine (y45.1 _).mono ?_
       rintro e vE ⟨rfl, hb⟩
       have HT := Kp.mk (HT.1.step hb)
       clear hb
       go_wp2_with fail
       refine hK.out _ _ HT.1.s (fun hH => ?_)
       clear hK K
       try simp only [pt]
    rotate_left 1
   rotate_left 3
  rotate_left 12
  focus
   clear hH
   go_simp
   have HT := Kp.mk HT.1.more
   generalize vz.alloc (.cells #[.int .i8 0, .int .i64 0, .int .i8 0, .int .i64 0] 26) = v88 at *
   generalize vz.heap.size = gH5 at *
   refine hK.out _ _ HT.1.s (fun hH => ?_)
   clear hK K
   try simp only [pt]
   refine rd [0, 5, 6] ?_
   refine .cons (dropAt rfl) (fun K hK => ?_) (.cons (dropAt rfl) (fun K hK => ?_) (.cons (dropAt rfl) (fun K hK => ?_) .nil))
   focus
    clear hH
    go_simp
    go_at_call 29
    refine (y13.1 _).mono ?_
    rintro e v89 ⟨rfl, hb⟩
    have HT := Kp.mk (HT.1.step hb)
    clear hb
    go_wp2_with fail
    refine hK.out _ _ HT.1.s (fun hH => ?_)
    clear hK K
    try simp only [pt]
    refine rd [1, 5, 6] ?_
    refine .cons (dropAt rfl) (fun K hK => ?_) (.cons (dropAt rfl) (fun K hK => ?_) (.cons (dropAt rfl) (fun K hK => ?_) .nil))
    focus
     clear hH
     go_simp
     go_at_call 29
     refine (y45.1 _).mono ?_
     rintro e v90 ⟨rfl, hb⟩
     have HT := Kp.mk (HT.1.step hb)
     clear hb
     go_wp2_with fail
     refine hK.out _ _ HT.1.s (fun hH => ?_)
     clear hK K
     try simp only [pt]
     refine rd [5, 6] ?_
     refine .cons (dropAt rfl) (fun K hK => ?_) (.cons (dropAt rfl) (fun K hK => ?_) .nil)
     focus
      clear hH
      go_simp
      have HT := Kp.mk HT.1.more
      generalize v90.alloc (.cells #[.int .i8 0, .int .i64 0, .int .i8 0, .int .i64 0] 26) = v91 at *
      generalize v90.heap.size = gH3 at *
      refine hK.out _ _ HT.1.s (fun hH => ?_)
      clear hK K
      try simp only [pt]
      refine rd [6] ?_
      refine .cons (dropAt rfl) (fun K hK => ?_) .nil
      focus
       clear hH
       go_simp
       have HT := Kp.mk HT.1.more
       generalize v91.alloc (.cells #[.int .i8 0, .int .i64 0, .int .i8 0, .int .i64 0] 26) = vE at *
       generalize v91.heap.size = gH4 at *
       refine hK.out _ _ HT.1.s (fun hH => ?_)
       clear hK K
       try simp only [pt]
     rotate_left 1
     focus
      clear hH
      go_simp
      have HT := Kp.mk HT.1.more
      generalize v90.alloc (.cells #[.int .i8 0, .int .i64 0, .int .i8 0, .int .i64 0] 26) = v92 at *
      generalize v90.heap.size = gH4 at *
      refine hK.out _ _ HT.1.s (fun hH => ?_)
      clear hK K
      try simp only [pt]
      refine rd [5] ?_
      refine .cons (dropAt rfl) (fun K hK => ?_) .nil
      focus
       clear hH
       go_simp
       have HT := Kp.mk HT.1.more
       generalize v92.alloc (.cells #[.int .i8 0, .int .i64 0, .int .i8 0, .int .i64 0] 26) = vE at *
       generalize v92.heap.size = gH3 at *
       refine hK.out _ _ HT.1.s (fun hH => ?_)
       clear hK K
       try simp only [pt]
     rotate_left 1
    rotate_left 2
    focus
     clear hH
     go_simp
     have HT := Kp.mk HT.1.more
     generalize v89.alloc (.cells #[.int .i8 0, .int .i64 0, .int .i8 0, .int .i64 0] 26) = v93 at *
     generalize v89.heap.size = gH3 at *
     refine hK.out _ _ HT.1.s (fun hH => ?_)
     clear hK K
     try simp only [pt]
     refine rd [1, 6] ?_
     refine .cons (dropAt rfl) (fun K hK => ?_) (.cons (dropAt rfl) (fun K hK => ?_) .nil)
     focus
      clear hH
      go_simp
      go_at_call 29
      refine (y45.1 _).mono ?_
      rintro e v94 ⟨rfl, hb⟩
      have HT := Kp.mk (HT.1.step hb)
      clear hb
      go_wp2_with fail
      refine hK.out _ _ HT.1.s (fun hH => ?_)
      clear hK K
      try simp only [pt]
      refine rd [6] ?_
      refine .cons (dropAt rfl) (fun K hK => ?_) .nil
      focus
       clear hH
       go_simp
       have HT := Kp.mk HT.1.more
       generalize v94.alloc (.cells #[.int .i8 0, .int .i64 0, .int .i8 0, .int .i64 0] 26) = vE at *
       generalize v94.heap.size = gH4 at *
       refine hK.out _ _ HT.1.s (fun hH => ?_)
       clear hK K
       try simp only [pt]
     rotate_left 1
     focus
      clear hH
      go_simp
      have HT := Kp.mk HT.1.more
      generalize v93.alloc (.cells #[.int .i8 0, .int .i64 0, .int .i8 0, .int .i64 0] 26) = v95 at *
      generalize v93.heap.size = gH4 at *
      refine hK.out _ _ HT.1.s (fun hH => ?_)
      clear hK K
      try simp only [pt]
      refine rd [1] ?_
      refine .cons (dropAt rfl) (fun K hK => ?_) .nil
      focus
       clear hH
       go_simp
       go_at_call 29
       refine (y45.1 _).mono ?_
       rintro e vE ⟨rfl, hb⟩
       have HT := Kp.mk (HT.1.step hb)
       clear hb
       go_wp2_with fail
       refine hK.out _ _ HT.1.s (fun hH => ?_)
       clear hK K
       try simp only [pt]
     rotate_left 1
    rotate_left 2
    focus
     clear hH
     go_simp
     have HT := Kp.mk HT.1.more
     generalize v89.alloc (.cells #[.int .i8 0, .int .i64 0, .int .i8 0, .int .i64 0] 26) = v96 at *
     generalize v89.heap.size = gH4 at *
     refine hK.out _ _ HT.1.s (fun hH => ?_)
     clear hK K
     try simp only [pt]
     refine rd [1, 5] ?_
     refine .cons (dropAt rfl) (fun K hK => ?_) (.cons (dropAt rfl) (fun K hK => ?_) .nil)
     focus
      clear hH
      go_simp
      go_at_call 29
      refine (y45.1 _).mono ?_
      rintro e v97 ⟨rfl, hb⟩
      have HT := Kp.mk (HT.1.step hb)
      clear hb
      go_wp2_with fail
      refine hK.out _ _ HT.1.s (fun hH => ?_)
      clear hK K
      try simp only [pt]
      refine rd [5] ?_
      refine .cons (dropAt rfl) (fun K hK => ?_) .nil
      focus
       clear hH
       go_simp
       have HT := Kp.mk HT.1.more
       generalize v97.alloc (.cells #[.int .i8 0, .int .i64 0, .int .i8 0, .int .i64 0] 26) = vE at *
       generalize v97.heap.size = gH3 at *
       refine hK.out _ _ HT.1.s (fun hH => ?_)
       clear hK K
       try simp only [pt]
     rotate_left 1
     focus
      clear hH
      go_simp
      have HT := Kp.mk HT.1.more
      generalize v96.alloc (.cells #[.int .i8 0, .int .i64 0, .int .i8 0, .int .i64 0] 26) = v98 at *
      generalize v96.heap.size = gH3 at *
      refine hK.out _ _ HT.1.s (fun hH => ?_)
      clear hK K
      try simp only [pt]
      refine rd [1] ?_
      refine .cons (dropAt rfl) (fun K hK => ?_) .nil
      focus
       clear hH
       go_simp
       go_at_call 29
       refine (y45.1 _).mono ?_
       rintro e vE ⟨rfl, hb⟩
       have HT := Kp.mk (HT.1.step hb)
       clear hb
       go_wp2_with fail
       refine hK.out _ _ HT.1.s (fun hH => ?_)
       clear hK K
       try simp only [pt]
     rotate_left 1
    rotate_left 2
   rotate_left 6
   focus
    clear hH
    go_simp
    have HT := Kp.mk HT.1.more
    generalize v88.alloc (.cells #[.int .i8 0, .int .i64 0, .int .i8 0, .int .i64 0] 26) = v99 at *
    generalize v88.heap.size = gH3 at *
    refine hK.out _ _ HT.1.s (fun hH => ?_)
    clear hK K
    try simp only [pt]
    refine rd [0, 6] ?_
    refine .cons (dropAt rfl) (fun K hK => ?_) (.cons (dropAt rfl) (fun K hK => ?_) .nil)
    focus
     clear hH
     go_simp
     go_at_call 29
     refine (y13.1 _).mono ?_
     rintro e v100 ⟨rfl, hb⟩
     have HT := Kp.mk (HT.1.step hb)
     clear hb
     go_wp2_with fail
     refine hK.out _ _ HT.1.s (fun hH => ?_)
     clear hK K
     try simp only [pt]
     refine rd [1, 6] ?_
     refine .cons (dropAt rfl) (fun K hK => ?_) (.cons (dropAt rfl) (fun K hK => ?_) .nil)
     focus
      clear hH
      go_simp
      go_at_call 29
      refine (y45.1 _).mono ?_
      rintro e v101 ⟨rfl, hb⟩
      have HT := Kp.mk (HT.1.step hb)
      clear hb
      go_wp2_with fail
      refine hK.out _ _ HT.1.s (fun hH => ?_)
      clear hK K
      try simp only [pt]
      refine rd [6] ?_
      refine .cons (dropAt rfl) (fun K hK => ?_) .nil
      focus
       clear hH
       go_simp
       have HT := Kp.mk HT.1.more
       generalize v101.alloc (.cells #[.int .i8 0, .int .i64 0, .int .i8 0, .int .i64 0] 26) = vE at *
       generalize v101.heap.size = gH4 at *
       refine hK.out _ _ HT.1.s (fun hH => ?_)
       clear hK K
       try simp only [pt]
     rotate_left 1
     focus
      clear hH
      go_simp
      have HT := Kp.mk HT.1.more
      generalize v100.alloc (.cells #[.int .i8 0, .int .i64 0, .int .i8 0, .int .i64 0] 26) = v102 at *
      generalize v100.heap.size = gH4 at *
      refine hK.out _ _ HT.1.s (fun hH => ?_)
      clear hK K
      try simp only [pt]
      refine rd [1] ?_
      refine .cons (dropAt rfl) (fun K hK => ?_) .nil
      focus
       clear hH
       go_simp
       go_at_call 29
       refine (y45.1 _).mono ?_
       rintro e vE ⟨rfl, hb⟩
       have HT := Kp.mk (HT.1.step hb)
       clear hb
       go_wp2_with fail
       refine hK.out _ _ HT.1.s (fun hH => ?_)
       clear hK K
       try simp only [pt]
     rotate_left 1
    rotate_left 2
    focus
     clear hH
     go_simp
     have HT := Kp.mk HT.1.more
     generalize v99.alloc (.cells #[.int .i8 0, .int .i64 0, .int .i8 0, .int .i64 0] 26) = v103 at *
     generalize v99.heap.size = gH4 at *
     refine hK.out _ _ HT.1.s (fun hH => ?_)
     clear hK K
     try simp only [pt]
     refine rd [0] ?_
     refine .cons (dropAt rfl) (fun K hK => ?_) .nil
     focus
      clear hH
      go_simp
      go_at_call 29
      refine (y13.1 _).mono ?_
      rintro e v104 ⟨rfl, hb⟩
      have HT := Kp.mk (HT.1.step hb)
      clear hb
      go_wp2_with fail
      refine hK.out _ _ HT.1.s (fun hH => ?_)
      clear hK K
      try simp only [pt]
      refine rd [1] ?_
      refine .cons (dropAt rfl) (fun K hK => ?_) .nil
      focus
       clear hH
       go_simp
       go_at_call 29
       refine (y45.1 _).mono ?_
       rintro e vE ⟨rfl, hb⟩
       have HT := Kp.mk (HT.1.step hb)
       clear hb
       go_wp2_with fail
       refine hK.out _ _ HT.1.s (fun hH => ?_)
       clear hK K
       try simp only [pt]
    rotate_left 1
   rotate_left 3
   focus
    clear hH
    go_simp
    have HT := Kp.mk HT.1.more
    generalize v88.alloc (.cells #[.int .i8 0, .int .i64 0, .int .i8 0, .int .i64 0] 26) = v105 at *
    generalize v88.heap.size = gH4 at *
    refine hK.out _ _ HT.1.s (fun hH => ?_)
    clear hK K
    try simp only [pt]
    refine rd [0, 5] ?_
    refine .cons (dropAt rfl) (fun K hK => ?_) (.cons (dropAt rfl) (fun K hK => ?_) .nil)
    focus
     clear hH
     go_simp
     go_at_call 29
     refine (y13.1 _).mono ?_
     rintro e v106 ⟨rfl, hb⟩
     have HT := Kp.mk (HT.1.step hb)
     clear hb
     go_wp2_with fail
     refine hK.out _ _ HT.1.s (fun hH => ?_)
     clear hK K
     try simp only [pt]
     refine rd [1, 5] ?_
     refine .cons (dropAt rfl) (fun K hK => ?_) (.cons (dropAt rfl) (fun K hK => ?_) .nil)
     focus
      clear hH
      go_simp
      go_at_call 29
      refine (y45.1 _).mono ?_
      rintro e v107 ⟨rfl, hb⟩
      have HT := Kp.mk (HT.1.step hb)
      clear hb
      go_wp2_with fail
      refine hK.out _ _ HT.1.s (fun hH => ?_)
      clear hK K
      try simp only [pt]
      refine rd [5] ?_
      refine .cons (dropAt rfl) (fun K hK => ?_) .nil
      focus
       clear hH
       go_simp
       have HT := Kp.mk HT.1.more
       generalize v107.alloc (.cells #[.int .i8 0, .int .i64 0, .int .i8 0, .int .i64 0] 26) = vE at *
       generalize v107.heap.size = gH3 at *
       refine hK.out _ _ HT.1.s (fun hH => ?_)
       clear hK K
       try simp only [pt]
     rotate_left 1
     focus
      clear hH
      go_simp
      have HT := Kp.mk HT.1.more
      generalize v106.alloc (.cells #[.int .i8 0, .int .i64 0, .int .i8 0, .int .i64 0] 26) = v108 at *
      generalize v106.heap.size = gH3 at *
      refine hK.out _ _ HT.1.s (fun hH => ?_)
      clear hK K
      try simp only [pt]
      refine rd [1] ?_
      refine .cons (dropAt rfl) (fun K hK => ?_) .nil
      focus
       clear hH
       go_simp
       go_at_call 29
       refine (y45.1 _).mono ?_
       rintro e vE ⟨rfl, hb⟩
       have HT := Kp.mk (HT.1.step hb)
       clear hb
       go_wp2_with fail
       refine hK.out _ _ HT.1.s (fun hH => ?_)
       clear hK K
       try simp only [pt]
     rotate_left 1
    rotate_left 2
    focus
     clear hH
     go_simp
     have HT := Kp.mk HT.1.more
     generalize v105.alloc (.cells #[.int .i8 0, .int .i64 0, .int .i8 0, .int .i64 0] 26) = v109 at *
     generalize v105.heap.size = gH3 at *
     refine hK.out _ _ HT.1.s (fun hH => ?_)
     clear hK K
     try simp only [pt]
     refine rd [0] ?_
     refine .cons (dropAt rfl) (fun K hK => ?_) .nil
     focus
      clear hH
      go_simp
      go_at_call 29
      refine (y13.1 _).mono ?_
      rintro e v110 ⟨rfl, hb⟩
      have HT := Kp.mk (HT.1.step hb)
      clear hb
      go_wp2_with fail
      refine hK.out _ _ HT.1.s (fun hH => ?_)
      clear hK K
      try simp only [pt]
      refine rd [1] ?_
      refine .cons (dropAt rfl) (fun K hK => ?_) .nil
      focus
       clear hH
       go_simp
       go_at_call 29
       refine (y45.1 _).mono ?_
       rintro e vE ⟨rfl, hb⟩
       have HT := Kp.mk (HT.1.step hb)
       clear hb
       go_wp2_with fail
       refine hK.out _ _ HT.1.s (fun hH => ?_)
       clear hK K
       try simp only [pt]
    rotate_left 1
   rotate_left 3
  rotate_left 12
  all_goals (
   clear hH
   have HT := Kp.mk (show Tl w [(gH3, zeroR), (gH4, zeroR), (gH5, zeroR)] vE from ⟨HT.1.bl, HT.1.hl, HT.1.hh, fun x hx => HT.1.ro x (by simp at hx ⊢; rcases hx with rfl | rfl | rfl <;> simp), by have hn := HT.1.nd; simp at hn ⊢; omega⟩)
   refine rd [8] ?_
   refine .cons (dropAt rfl) (fun K hK => ?_) .nil
   obtain ⟨k0, k1, k2, k3, l0, l1, l2, l3⟩ := HT.1.z (k := gH3) (by simp)
   go_simp
   clear k0 k1 k2 k3 l0 l1 l2 l3
   have HT := Kp.mk (HT.1.fill (pre := []) 0 1 0 3)
   refine hK.out _ (World.setL vE gH3 0 1 0 3) HT.1.s (fun hH => ?_)
   generalize World.setL vE gH3 0 1 0 3 = vE0 at *
   clear hK K
   try simp only [pt]
   clear hH
   refine rd [9] ?_
   refine .cons (dropAt rfl) (fun K hK => ?_) .nil
   obtain ⟨k0, k1, k2, k3, l0, l1, l2, l3⟩ := HT.1.z (k := gH4) (by simp)
   go_simp
   clear k0 k1 k2 k3 l0 l1 l2 l3
   have HT := Kp.mk (HT.1.fill (pre := [(gH3, ⟨0, 1, 0, 3⟩)]) 0 4 0 5)
   refine hK.out _ (World.setL vE0 gH4 0 4 0 5) HT.1.s (fun hH => ?_)
   generalize World.setL vE0 gH4 0 4 0 5 = vE1 at *
   clear hK K
   try simp only [pt]
   clear hH
   refine rd [10] ?_
   refine .cons (dropAt rfl) (fun K hK => ?_) .nil
   obtain ⟨k0, k1, k2, k3, l0, l1, l2, l3⟩ := HT.1.z (k := gH5) (by simp)
   go_simp
   clear k0 k1 k2 k3 l0 l1 l2 l3
   have HT := Kp.mk (HT.1.fill (pre := [(gH3, ⟨0, 1, 0, 3⟩), (gH4, ⟨0, 4, 0, 5⟩)]) (-1) 0 0 3)
   refine hK.out _ (World.setL vE1 gH5 (-1) 0 0 3) HT.1.s (fun hH => ?_)
   generalize World.setL vE1 gH5 (-1) 0 0 3 = vE2 at *
   clear hK K
   try simp only [pt]
   refine wpAnyH_done (by kernel_rfl) ?_ _
   clear hH
   go_wp2_with fail
   go_meet
   exact ⟨gH3, gH4, gH5, rfl, rfl, rfl, Kp.mk HT.1.hl, Kp.mk HT.1.hh, Kp.mk (HT.1.ro (gH3, ⟨0, 1, 0, 3⟩) (by simp)).1, Kp.mk (HT.1.ro (gH4, ⟨0, 4, 0, 5⟩) (by simp)).1, Kp.mk (HT.1.ro (gH5, ⟨-1, 0, 0, 3⟩) (by simp)).1⟩)
 case rest =>
  obtain ⟨g3, g4, g5, rfl, rfl, rfl, HL, HH, HA, HC, HD⟩ := hcut
  clear HB
  have HB := Kp.mk (Bl.mk HL.1.below)
  have kHL0 := HL.1.c0
  have kHL1 := HL.1.c1
  have kHH0 := HH.1.c0
  have kHH1 := HH.1.c1
  obtain ⟨kHA0, kHA1, kHA2, kHA3⟩ := HA.1.cs
  obtain ⟨kHC0, kHC1, kHC2, kHC3⟩ := HC.1.cs
  obtain ⟨kHD0, kHD1, kHD2, kHD3⟩ := HD.1.cs
  go_upto_region 3 with fail
  have hbl := (Below.refl wc.heap.size wc).drew
  have HBz := Kp.mk (HB.1.step hbl)
  have HLz := Kp.mk (HL.1.step hbl)
  have HHz := Kp.mk (HH.1.step hbl)
  have HAz := Kp.mk (HA.1.step hbl)
  have HCz := Kp.mk (HC.1.step hbl)
  have HDz := Kp.mk (HD.1.step hbl)
  have kHL0z := HLz.1.c0
  have kHL1z := HLz.1.c1
  have kHH0z := HHz.1.c0
  have kHH1z := HHz.1.c1
  have kHA0z := HAz.1.c0
  have kHA1z := HAz.1.c1
  have kHA2z := HAz.1.c2
  have kHA3z := HAz.1.c3
  have kHC0z := HCz.1.c0
  have kHC1z := HCz.1.c1
  have kHC2z := HCz.1.c2
  have kHC3z := HCz.1.c3
  have kHD0z := HDz.1.c0
  have kHD1z := HDz.1.c1
  have kHD2z := HDz.1.c2
  have kHD3z := HDz.1.c3
  clear hbl
  go_region_held3 (fun w' => w'.cell? ⟨w.heap.size, 0, none⟩ = some (.int .i8 (-1)) ∧ w'.cell? ⟨w.heap.size, 1, none⟩ = some (.int .i64 0) ∧ w'.cell? ⟨w.heap.size + 1, 0, none⟩ = some (.int .i8 1) ∧ w'.cell? ⟨w.heap.size + 1, 1, none⟩ = some (.int .i64 0) ∧ w'.cell? ⟨g3, 0, none⟩ = some (.int .i8 0) ∧ w'.cell? ⟨g3, 1, none⟩ = some (.int .i64 1) ∧ w'.cell? ⟨g3, 2, none⟩ = some (.int .i8 0) ∧ w'.cell? ⟨g3, 3, none⟩ = some (.int .i64 3) ∧ w'.cell? ⟨g4, 0, none⟩ = some (.int .i8 0) ∧ w'.cell? ⟨g4, 1, none⟩ = some (.int .i64 4) ∧ w'.cell? ⟨g4, 2, none⟩ = some (.int .i8 0) ∧ w'.cell? ⟨g4, 3, none⟩ = some (.int .i64 5) ∧ w'.cell? ⟨g5, 0, none⟩ = some (.int .i8 (-1)) ∧ w'.cell? ⟨g5, 1, none⟩ = some (.int .i64 0) ∧ w'.cell? ⟨g5, 2, none⟩ = some (.int .i8 0) ∧ w'.cell? ⟨g5, 3, none⟩ = some (.int .i64 3)) (first | (with_reducible exact ⟨kHL0, kHL1, kHH0, kHH1, kHA0, kHA1, kHA2, kHA3, kHC0, kHC1, kHC2, kHC3, kHD0, kHD1, kHD2, kHD3⟩) | (with_reducible exact ⟨kHL0z, kHL1z, kHH0z, kHH1z, kHA0z, kHA1z, kHA2z, kHA3z, kHC0z, kHC1z, kHC2z, kHC3z, kHD0z, kHD1z, kHD2z, kHD3z⟩) | (with_reducible exact ⟨HL_u1.1.c0, HL_u1.1.c1, HH_u1.1.c0, HH_u1.1.c1, HA_u1.1.c0, HA_u1.1.c1, HA_u1.1.c2, HA_u1.1.c3, HC_u1.1.c0, HC_u1.1.c1, HC_u1.1.c2, HC_u1.1.c3, HD_u1.1.c0, HD_u1.1.c1, HD_u1.1.c2, HD_u1.1.c3⟩) | (with_reducible exact ⟨HL_u2.1.c0, HL_u2.1.c1, HH_u2.1.c0, HH_u2.1.c1, HA_u2.1.c0, HA_u2.1.c1, HA_u2.1.c2, HA_u2.1.c3, HC_u2.1.c0, HC_u2.1.c1, HC_u2.1.c2, HC_u2.1.c3, HD_u2.1.c0, HD_u2.1.c1, HD_u2.1.c2, HD_u2.1.c3⟩) | (with_reducible exact ⟨HL_u3.1.c0, HL_u3.1.c1, HH_u3.1.c0, HH_u3.1.c1, HA_u3.1.c0, HA_u3.1.c1, HA_u3.1.c2, HA_u3.1.c3, HC_u3.1.c0, HC_u3.1.c1, HC_u3.1.c2, HC_u3.1.c3, HD_u3.1.c0, HD_u3.1.c1, HD_u3.1.c2, HD_u3.1.c3⟩) | (with_reducible exact ⟨HL_u4.1.c0, HL_u4.1.c1, HH_u4.1.c0, HH_u4.1.c1, HA_u4.1.c0, HA_u4.1.c1, HA_u4.1.c2, HA_u4.1.c3, HC_u4.1.c0, HC_u4.1.c1, HC_u4.1.c2, HC_u4.1.c3, HD_u4.1.c0, HD_u4.1.c1, HD_u4.1.c2, HD_u4.1.c3⟩) | go_keep)
   (first
    | (go_at_call 16; (with_reducible show Calls _ _ _ wc.drew _); (with_reducible refine (t1.1 _ HBz.1.below).mono ?_); rintro e u1 ⟨rfl, hb⟩; have HB_u1 := Kp.mk (HBz.1.step hb); have HL_u1 := Kp.mk (HLz.1.step hb); have HH_u1 := Kp.mk (HHz.1.step hb); have HA_u1 := Kp.mk (HAz.1.step hb); have HC_u1 := Kp.mk (HCz.1.step hb); have HD_u1 := Kp.mk (HDz.1.step hb); clear hb)
    | (go_at_call 29; (with_reducible show Calls _ _ _ u1 _); (with_reducible refine (y56.1 _).mono ?_); rintro e u2 ⟨rfl, hb⟩; have HB_u2 := Kp.mk (HB_u1.1.step hb); have HL_u2 := Kp.mk (HL_u1.1.step hb); have HH_u2 := Kp.mk (HH_u1.1.step hb); have HA_u2 := Kp.mk (HA_u1.1.step hb); have HC_u2 := Kp.mk (HC_u1.1.step hb); have HD_u2 := Kp.mk (HD_u1.1.step hb); clear hb)
    | (go_at_call 16; (with_reducible show Calls _ _ _ u2 _); (with_reducible refine (t2.1 _ HB_u2.1.below).mono ?_); rintro e u3 ⟨rfl, hb⟩; have HB_u3 := Kp.mk (HB_u2.1.step hb); have HL_u3 := Kp.mk (HL_u2.1.step hb); have HH_u3 := Kp.mk (HH_u2.1.step hb); have HA_u3 := Kp.mk (HA_u2.1.step hb); have HC_u3 := Kp.mk (HC_u2.1.step hb); have HD_u3 := Kp.mk (HD_u2.1.step hb); clear hb)
    | (go_at_call 16; (with_reducible show Calls _ _ _ u3 _); (with_reducible refine (t3.1 _ HB_u3.1.below).mono ?_); rintro e u4 ⟨rfl, hb⟩; have HB_u4 := Kp.mk (HB_u3.1.step hb); have HL_u4 := Kp.mk (HL_u3.1.step hb); have HH_u4 := Kp.mk (HH_u3.1.step hb); have HA_u4 := Kp.mk (HA_u3.1.step hb); have HC_u4 := Kp.mk (HC_u3.1.step hb); have HD_u4 := Kp.mk (HD_u3.1.step hb); clear hb))
  have HB := HB_u4
  have HL := HL_u4
  have HH := HH_u4
  have HA := HA_u4
  have HC := HC_u4
  have HD := HD_u4
  have kHL0 := HL.1.c0
  have kHL1 := HL.1.c1
  have kHH0 := HH.1.c0
  have kHH1 := HH.1.c1
  obtain ⟨kHA0, kHA1, kHA2, kHA3⟩ := HA.1.cs
  obtain ⟨kHC0, kHC1, kHC2, kHC3⟩ := HC.1.cs
  obtain ⟨kHD0, kHD1, kHD2, kHD3⟩ := HD.1.cs
  go_wp2_with fail
  refine (j1.1 _ HB.1.below).mono ?_
  rintro e u5 ⟨rfl, hbl⟩
  clear kHL0 kHL1 kHH0 kHH1 kHA0 kHA1 kHA2 kHA3 kHC0 kHC1 kHC2 kHC3 kHD0 kHD1 kHD2 kHD3
  have HB := Kp.mk (HB.1.step hbl)
  have HL := Kp.mk (HL.1.step hbl)
  have HH := Kp.mk (HH.1.step hbl)
  have HA := Kp.mk (HA.1.step hbl)
  have HC := Kp.mk (HC.1.step hbl)
  have HD := Kp.mk (HD.1.step hbl)
  clear hbl
  have kHL0 := HL.1.c0
  have kHL1 := HL.1.c1
  have kHH0 := HH.1.c0
  have kHH1 := HH.1.c1
  obtain ⟨kHA0, kHA1, kHA2, kHA3⟩ := HA.1.cs
  obtain ⟨kHC0, kHC1, kHC2, kHC3⟩ := HC.1.cs
  obtain ⟨kHD0, kHD1, kHD2, kHD3⟩ := HD.1.cs
  go_upto_region 6 with fail
  clear kHL0 kHL1 kHH0 kHH1 kHA0 kHA1 kHA2 kHA3 kHC0 kHC1 kHC2 kHC3 kHD0 kHD1 kHD2 kHD3
  have HE := Kp.mk (rl_new 0 1 0 5 HB.1.below)
  have hbl := (Below.refl u5.heap.size u5).alloc (Nat.le_refl _) (.cells #[.int .i8 0, .int .i64 1, .int .i8 0, .int .i64 5] 26)
  have NHEHL := Kp.mk HL.1.ne
  have NHEHH := Kp.mk HH.1.ne
  have NHEHA := Kp.mk HA.1.ne
  have NHEHC := Kp.mk HC.1.ne
  have NHEHD := Kp.mk HD.1.ne
  have HB := Kp.mk (HB.1.step hbl)
  have HL := Kp.mk (HL.1.step hbl)
  have HH := Kp.mk (HH.1.step hbl)
  have HA := Kp.mk (HA.1.step hbl)
  have HC := Kp.mk (HC.1.step hbl)
  have HD := Kp.mk (HD.1.step hbl)
  clear hbl
  generalize u5.alloc (.cells #[.int .i8 0, .int .i64 1, .int .i8 0, .int .i64 5] 26) = u6 at *
  generalize u5.heap.size = g6 at *
  have kHL0 := HL.1.c0
  have kHL1 := HL.1.c1
  have kHH0 := HH.1.c0
  have kHH1 := HH.1.c1
  obtain ⟨kHA0, kHA1, kHA2, kHA3⟩ := HA.1.cs
  obtain ⟨kHC0, kHC1, kHC2, kHC3⟩ := HC.1.cs
  obtain ⟨kHD0, kHD1, kHD2, kHD3⟩ := HD.1.cs
  obtain ⟨kHE0, kHE1, kHE2, kHE3⟩ := HE.1.cs
  clear kHL0 kHL1 kHH0 kHH1 kHA0 kHA1 kHA2 kHA3 kHC0 kHC1 kHC2 kHC3 kHD0 kHD1 kHD2 kHD3 kHE0 kHE1 kHE2 kHE3
  go_cut [8, 9] from 51 to 56 (fun p q wx => ∃ g8 : Nat, p = .pointer (some ⟨g8, 0, none⟩) ∧ q = .bool true ∧ Kp (ERow w (w.heap.size) (-1) 0 wx) ∧ Kp (ERow w (w.heap.size + 1) 1 0 wx) ∧ Kp (Rl w g3 0 1 0 3 wx) ∧ Kp (Rl w g4 0 4 0 5 wx) ∧ Kp (Rl w g5 (-1) 0 0 3 wx) ∧ Kp (Rl w g6 0 1 0 5 wx) ∧ Kp (Rl w g8 0 3 0 3 wx) ∧ Kp (¬ g8 = w.heap.size ∧ ¬ g8 = w.heap.size + 1 ∧ ¬ g8 = g3 ∧ ¬ g8 = g4 ∧ ¬ g8 = g5 ∧ ¬ g8 = g6))
  case first =>
   have hd := (Below.refl u6.heap.size u6).drew
   have HB := Kp.mk (HB.1.step hd)
   have HL := Kp.mk (HL.1.step hd)
   have HH := Kp.mk (HH.1.step hd)
   have HA := Kp.mk (HA.1.step hd)
   have HC := Kp.mk (HC.1.step hd)
   have HD := Kp.mk (HD.1.step hd)
   have HE := Kp.mk (HE.1.step hd)
   clear hd
   refine wp_region_held_drew (S := fun w' => w'.cell? ⟨g3, 0, none⟩ = some (.int .i8 0) ∧ w'.cell? ⟨g3, 1, none⟩ = some (.int .i64 1) ∧ w'.cell? ⟨g3, 2, none⟩ = some (.int .i8 0) ∧ w'.cell? ⟨g3, 3, none⟩ = some (.int .i64 3)) (by kernel_rfl) ?_ (fun hHeld => ?_)
   ·exact ⟨HA.1.c0, HA.1.c1, HA.1.c2, HA.1.c3⟩
   generalize u6.drew = vz at *
   refine tk 0 ?_ rfl hHeld ?_ ?_
   rotate_left
   ·(intro w hSw; (try dsimp only at hSw); go_simp; try with_reducible rfl)
   try simp only [pt]
   refine rd [1, 6] ?_
   refine AllReadyH.cons (dropAt rfl) (fun K hK => ?_) (AllReadyH.cons (dropAt rfl) (fun K hK => ?_) AllReadyH.nil)
   ·clear hHeld
    go_simp
    go_at_call 29
    with_reducible refine (y39.1 _).mono ?_
    rintro e v1 ⟨rfl, hb⟩
    have HB := Kp.mk (HB.1.step hb)
    have HL := Kp.mk (HL.1.step hb)
    have HH := Kp.mk (HH.1.step hb)
    have HA := Kp.mk (HA.1.step hb)
    have HC := Kp.mk (HC.1.step hb)
    have HD := Kp.mk (HD.1.step hb)
    have HE := Kp.mk (HE.1.step hb)
    clear hb
    go_wp2_with fail
    refine hK.out _ _ ?_ (fun hHeld => ?_)
    ·exact ⟨HA.1.c0, HA.1.c1, HA.1.c2, HA.1.c3⟩
    clear hK K
    try simp only [pt]
    refine rd [2, 6] ?_
    refine AllReadyH.cons (dropAt rfl) (fun K hK => ?_) (AllReadyH.cons (dropAt rfl) (fun K hK => ?_) AllReadyH.nil)
    ·clear hHeld
     go_simp
     go_at_call 15
     with_reducible refine (m1.1 _ HB.1.below).mono ?_
     rintro e v2 ⟨rfl, hb⟩
     have HB := Kp.mk (HB.1.step hb)
     have HL := Kp.mk (HL.1.step hb)
     have HH := Kp.mk (HH.1.step hb)
     have HA := Kp.mk (HA.1.step hb)
     have HC := Kp.mk (HC.1.step hb)
     have HD := Kp.mk (HD.1.step hb)
     have HE := Kp.mk (HE.1.step hb)
     clear hb
     go_wp2_with fail
     refine hK.out _ _ ?_ (fun hHeld => ?_)
     ·exact ⟨HA.1.c0, HA.1.c1, HA.1.c2, HA.1.c3⟩
     clear hK K
     try simp only [pt]
     refine tk 3 ?_ rfl hHeld ?_ ?_
     rotate_left
     ·(intro w hSw; (try dsimp only at hSw); go_simp; try with_reducible rfl)
     try simp only [pt]
     refine tk 4 ?_ rfl hHeld ?_ ?_
     rotate_left
     ·(intro w hSw; (try dsimp only at hSw); go_simp; try with_reducible rfl)
     try simp only [pt]
     refine tk 5 ?_ rfl hHeld ?_ ?_
     rotate_left
     ·(intro w hSw; (try dsimp only at hSw); go_simp; try with_reducible rfl)
     try simp only [pt]
     refine rd [6] ?_
     refine AllReadyH.cons (dropAt rfl) (fun K hK => ?_) AllReadyH.nil
     ·clear hHeld
      go_simp
      have hbl := (Below.refl v2.heap.size v2).alloc (Nat.le_refl _) (.cells #[.int .i8 0, .int .i64 0, .int .i8 0, .int .i64 0] 26)
      have H8 := Kp.mk (rl_new 0 0 0 0 HB.1.below)
      have NH8HL := Kp.mk HL.1.ne
      have NH8HH := Kp.mk HH.1.ne
      have NH8HA := Kp.mk HA.1.ne
      have NH8HC := Kp.mk HC.1.ne
      have NH8HD := Kp.mk HD.1.ne
      have NH8HE := Kp.mk HE.1.ne
      have HB := Kp.mk (HB.1.step hbl)
      have HL := Kp.mk (HL.1.step hbl)
      have HH := Kp.mk (HH.1.step hbl)
      have HA := Kp.mk (HA.1.step hbl)
      have HC := Kp.mk (HC.1.step hbl)
      have HD := Kp.mk (HD.1.step hbl)
      have HE := Kp.mk (HE.1.step hbl)
      clear hbl
      generalize v2.alloc (.cells #[.int .i8 0, .int .i64 0, .int .i8 0, .int .i64 0] 26) = v3 at *
      generalize v2.heap.size = gH8 at *
      refine hK.out _ _ ?_ (fun hHeld => ?_)
      ·exact ⟨HA.1.c0, HA.1.c1, HA.1.c2, HA.1.c3⟩
      clear hK K
      try simp only [pt]
      refine rd [7] ?_
      refine AllReadyH.cons (dropAt rfl) (fun K hK => ?_) AllReadyH.nil
      ·clear hHeld
       have k0 : v3.cell? ⟨gH8, 0, none⟩ = some (.int .i8 0) := H8.1.c0
       have l0 := H8.1.frozen 0
       have k1 : v3.cell? ⟨gH8, 1, none⟩ = some (.int .i64 0) := H8.1.c1
       have l1 := H8.1.frozen 1
       have k2 : v3.cell? ⟨gH8, 2, none⟩ = some (.int .i8 0) := H8.1.c2
       have l2 := H8.1.frozen 2
       have k3 : v3.cell? ⟨gH8, 3, none⟩ = some (.int .i64 0) := H8.1.c3
       have l3 := H8.1.frozen 3
       go_simp
       clear k0 k1 k2 k3 l0 l1 l2 l3
       have bs0 := H8.1.base
       have HB : Kp (Bl w ((((v3.setCell ⟨gH8, 0, none⟩ (.int .i8 0)).setCell ⟨gH8, 1, none⟩ (.int .i64 3)).setCell ⟨gH8, 2, none⟩ (.int .i8 0)).setCell ⟨gH8, 3, none⟩ (.int .i64 3))) := Kp.mk (Bl.mk (below_setL HB.1.below bs0 0 3 0 3))
       have HL : Kp (ERow w (w.heap.size) (-1) 0 ((((v3.setCell ⟨gH8, 0, none⟩ (.int .i8 0)).setCell ⟨gH8, 1, none⟩ (.int .i64 3)).setCell ⟨gH8, 2, none⟩ (.int .i8 0)).setCell ⟨gH8, 3, none⟩ (.int .i64 3))) := Kp.mk (HL.1.other (fun q => NH8HL.1 q.symm) bs0 0 3 0 3)
       have HH : Kp (ERow w (w.heap.size + 1) 1 0 ((((v3.setCell ⟨gH8, 0, none⟩ (.int .i8 0)).setCell ⟨gH8, 1, none⟩ (.int .i64 3)).setCell ⟨gH8, 2, none⟩ (.int .i8 0)).setCell ⟨gH8, 3, none⟩ (.int .i64 3))) := Kp.mk (HH.1.other (fun q => NH8HH.1 q.symm) bs0 0 3 0 3)
       have HA : Kp (Rl w g3 0 1 0 3 ((((v3.setCell ⟨gH8, 0, none⟩ (.int .i8 0)).setCell ⟨gH8, 1, none⟩ (.int .i64 3)).setCell ⟨gH8, 2, none⟩ (.int .i8 0)).setCell ⟨gH8, 3, none⟩ (.int .i64 3))) := Kp.mk (HA.1.other (fun q => NH8HA.1 q.symm) bs0 0 3 0 3)
       have HC : Kp (Rl w g4 0 4 0 5 ((((v3.setCell ⟨gH8, 0, none⟩ (.int .i8 0)).setCell ⟨gH8, 1, none⟩ (.int .i64 3)).setCell ⟨gH8, 2, none⟩ (.int .i8 0)).setCell ⟨gH8, 3, none⟩ (.int .i64 3))) := Kp.mk (HC.1.other (fun q => NH8HC.1 q.symm) bs0 0 3 0 3)
       have HD : Kp (Rl w g5 (-1) 0 0 3 ((((v3.setCell ⟨gH8, 0, none⟩ (.int .i8 0)).setCell ⟨gH8, 1, none⟩ (.int .i64 3)).setCell ⟨gH8, 2, none⟩ (.int .i8 0)).setCell ⟨gH8, 3, none⟩ (.int .i64 3))) := Kp.mk (HD.1.other (fun q => NH8HD.1 q.symm) bs0 0 3 0 3)
       have HE : Kp (Rl w g6 0 1 0 5 ((((v3.setCell ⟨gH8, 0, none⟩ (.int .i8 0)).setCell ⟨gH8, 1, none⟩ (.int .i64 3)).setCell ⟨gH8, 2, none⟩ (.int .i8 0)).setCell ⟨gH8, 3, none⟩ (.int .i64 3))) := Kp.mk (HE.1.other (fun q => NH8HE.1 q.symm) bs0 0 3 0 3)
       have H8 : Kp (Rl w gH8 0 3 0 3 ((((v3.setCell ⟨gH8, 0, none⟩ (.int .i8 0)).setCell ⟨gH8, 1, none⟩ (.int .i64 3)).setCell ⟨gH8, 2, none⟩ (.int .i8 0)).setCell ⟨gH8, 3, none⟩ (.int .i64 3))) := Kp.mk (H8.1.fill 0 3 0 3)
       clear bs0
       generalize ((((v3.setCell ⟨gH8, 0, none⟩ (.int .i8 0)).setCell ⟨gH8, 1, none⟩ (.int .i64 3)).setCell ⟨gH8, 2, none⟩ (.int .i8 0)).setCell ⟨gH8, 3, none⟩ (.int .i64 3)) = v4 at *
       refine hK.out _ _ ?_ (fun hHeld => ?_)
       ·exact ⟨HA.1.c0, HA.1.c1, HA.1.c2, HA.1.c3⟩
       clear hK K
       try simp only [pt]
       refine tk 8 ?_ rfl hHeld ?_ ?_
       rotate_left
       ·(intro w hSw; (try dsimp only at hSw); go_simp; try with_reducible rfl)
       try simp only [pt]
       refine wpAnyH_done (by kernel_rfl) ?_ _
       clear hHeld
       go_wp2_with fail
       go_meet
       exact ⟨gH8, rfl, rfl, HL, HH, HA, HC, HD, HE, H8, Kp.mk ⟨NH8HL.1, NH8HH.1, NH8HA.1, NH8HC.1, NH8HD.1, NH8HE.1⟩⟩
    ·clear hHeld
     go_simp
     have hbl := (Below.refl v1.heap.size v1).alloc (Nat.le_refl _) (.cells #[.int .i8 0, .int .i64 0, .int .i8 0, .int .i64 0] 26)
     have H8 := Kp.mk (rl_new 0 0 0 0 HB.1.below)
     have NH8HL := Kp.mk HL.1.ne
     have NH8HH := Kp.mk HH.1.ne
     have NH8HA := Kp.mk HA.1.ne
     have NH8HC := Kp.mk HC.1.ne
     have NH8HD := Kp.mk HD.1.ne
     have NH8HE := Kp.mk HE.1.ne
     have HB := Kp.mk (HB.1.step hbl)
     have HL := Kp.mk (HL.1.step hbl)
     have HH := Kp.mk (HH.1.step hbl)
     have HA := Kp.mk (HA.1.step hbl)
     have HC := Kp.mk (HC.1.step hbl)
     have HD := Kp.mk (HD.1.step hbl)
     have HE := Kp.mk (HE.1.step hbl)
     clear hbl
     generalize v1.alloc (.cells #[.int .i8 0, .int .i64 0, .int .i8 0, .int .i64 0] 26) = v5 at *
     generalize v1.heap.size = gH8 at *
     refine hK.out _ _ ?_ (fun hHeld => ?_)
     ·exact ⟨HA.1.c0, HA.1.c1, HA.1.c2, HA.1.c3⟩
     clear hK K
     try simp only [pt]
     refine rd [2] ?_
     refine AllReadyH.cons (dropAt rfl) (fun K hK => ?_) AllReadyH.nil
     ·clear hHeld
      go_simp
      go_at_call 15
      with_reducible refine (m1.1 _ HB.1.below).mono ?_
      rintro e v6 ⟨rfl, hb⟩
      have HB := Kp.mk (HB.1.step hb)
      have HL := Kp.mk (HL.1.step hb)
      have HH := Kp.mk (HH.1.step hb)
      have HA := Kp.mk (HA.1.step hb)
      have HC := Kp.mk (HC.1.step hb)
      have HD := Kp.mk (HD.1.step hb)
      have HE := Kp.mk (HE.1.step hb)
      have H8 := Kp.mk (H8.1.step hb)
      clear hb
      go_wp2_with fail
      refine hK.out _ _ ?_ (fun hHeld => ?_)
      ·exact ⟨HA.1.c0, HA.1.c1, HA.1.c2, HA.1.c3⟩
      clear hK K
      try simp only [pt]
      refine tk 3 ?_ rfl hHeld ?_ ?_
      rotate_left
      ·(intro w hSw; (try dsimp only at hSw); go_simp; try with_reducible rfl)
      try simp only [pt]
      refine tk 4 ?_ rfl hHeld ?_ ?_
      rotate_left
      ·(intro w hSw; (try dsimp only at hSw); go_simp; try with_reducible rfl)
      try simp only [pt]
      refine tk 5 ?_ rfl hHeld ?_ ?_
      rotate_left
      ·(intro w hSw; (try dsimp only at hSw); go_simp; try with_reducible rfl)
      try simp only [pt]
      refine rd [7] ?_
      refine AllReadyH.cons (dropAt rfl) (fun K hK => ?_) AllReadyH.nil
      ·clear hHeld
       have k0 : v6.cell? ⟨gH8, 0, none⟩ = some (.int .i8 0) := H8.1.c0
       have l0 := H8.1.frozen 0
       have k1 : v6.cell? ⟨gH8, 1, none⟩ = some (.int .i64 0) := H8.1.c1
       have l1 := H8.1.frozen 1
       have k2 : v6.cell? ⟨gH8, 2, none⟩ = some (.int .i8 0) := H8.1.c2
       have l2 := H8.1.frozen 2
       have k3 : v6.cell? ⟨gH8, 3, none⟩ = some (.int .i64 0) := H8.1.c3
       have l3 := H8.1.frozen 3
       go_simp
       clear k0 k1 k2 k3 l0 l1 l2 l3
       have bs0 := H8.1.base
       have HB : Kp (Bl w ((((v6.setCell ⟨gH8, 0, none⟩ (.int .i8 0)).setCell ⟨gH8, 1, none⟩ (.int .i64 3)).setCell ⟨gH8, 2, none⟩ (.int .i8 0)).setCell ⟨gH8, 3, none⟩ (.int .i64 3))) := Kp.mk (Bl.mk (below_setL HB.1.below bs0 0 3 0 3))
       have HL : Kp (ERow w (w.heap.size) (-1) 0 ((((v6.setCell ⟨gH8, 0, none⟩ (.int .i8 0)).setCell ⟨gH8, 1, none⟩ (.int .i64 3)).setCell ⟨gH8, 2, none⟩ (.int .i8 0)).setCell ⟨gH8, 3, none⟩ (.int .i64 3))) := Kp.mk (HL.1.other (fun q => NH8HL.1 q.symm) bs0 0 3 0 3)
       have HH : Kp (ERow w (w.heap.size + 1) 1 0 ((((v6.setCell ⟨gH8, 0, none⟩ (.int .i8 0)).setCell ⟨gH8, 1, none⟩ (.int .i64 3)).setCell ⟨gH8, 2, none⟩ (.int .i8 0)).setCell ⟨gH8, 3, none⟩ (.int .i64 3))) := Kp.mk (HH.1.other (fun q => NH8HH.1 q.symm) bs0 0 3 0 3)
       have HA : Kp (Rl w g3 0 1 0 3 ((((v6.setCell ⟨gH8, 0, none⟩ (.int .i8 0)).setCell ⟨gH8, 1, none⟩ (.int .i64 3)).setCell ⟨gH8, 2, none⟩ (.int .i8 0)).setCell ⟨gH8, 3, none⟩ (.int .i64 3))) := Kp.mk (HA.1.other (fun q => NH8HA.1 q.symm) bs0 0 3 0 3)
       have HC : Kp (Rl w g4 0 4 0 5 ((((v6.setCell ⟨gH8, 0, none⟩ (.int .i8 0)).setCell ⟨gH8, 1, none⟩ (.int .i64 3)).setCell ⟨gH8, 2, none⟩ (.int .i8 0)).setCell ⟨gH8, 3, none⟩ (.int .i64 3))) := Kp.mk (HC.1.other (fun q => NH8HC.1 q.symm) bs0 0 3 0 3)
       have HD : Kp (Rl w g5 (-1) 0 0 3 ((((v6.setCell ⟨gH8, 0, none⟩ (.int .i8 0)).setCell ⟨gH8, 1, none⟩ (.int .i64 3)).setCell ⟨gH8, 2, none⟩ (.int .i8 0)).setCell ⟨gH8, 3, none⟩ (.int .i64 3))) := Kp.mk (HD.1.other (fun q => NH8HD.1 q.symm) bs0 0 3 0 3)
       have HE : Kp (Rl w g6 0 1 0 5 ((((v6.setCell ⟨gH8, 0, none⟩ (.int .i8 0)).setCell ⟨gH8, 1, none⟩ (.int .i64 3)).setCell ⟨gH8, 2, none⟩ (.int .i8 0)).setCell ⟨gH8, 3, none⟩ (.int .i64 3))) := Kp.mk (HE.1.other (fun q => NH8HE.1 q.symm) bs0 0 3 0 3)
       have H8 : Kp (Rl w gH8 0 3 0 3 ((((v6.setCell ⟨gH8, 0, none⟩ (.int .i8 0)).setCell ⟨gH8, 1, none⟩ (.int .i64 3)).setCell ⟨gH8, 2, none⟩ (.int .i8 0)).setCell ⟨gH8, 3, none⟩ (.int .i64 3))) := Kp.mk (H8.1.fill 0 3 0 3)
       clear bs0
       generalize ((((v6.setCell ⟨gH8, 0, none⟩ (.int .i8 0)).setCell ⟨gH8, 1, none⟩ (.int .i64 3)).setCell ⟨gH8, 2, none⟩ (.int .i8 0)).setCell ⟨gH8, 3, none⟩ (.int .i64 3)) = v7 at *
       refine hK.out _ _ ?_ (fun hHeld => ?_)
       ·exact ⟨HA.1.c0, HA.1.c1, HA.1.c2, HA.1.c3⟩
       clear hK K
       try simp only [pt]
       refine tk 8 ?_ rfl hHeld ?_ ?_
       rotate_left
       ·(intro w hSw; (try dsimp only at hSw); go_simp; try with_reducible rfl)
       try simp only [pt]
       refine wpAnyH_done (by kernel_rfl) ?_ _
       clear hHeld
       go_wp2_with fail
       go_meet
       exact ⟨gH8, rfl, rfl, HL, HH, HA, HC, HD, HE, H8, Kp.mk ⟨NH8HL.1, NH8HH.1, NH8HA.1, NH8HC.1, NH8HD.1, NH8HE.1⟩⟩
   ·clear hHeld
    go_simp
    have hbl := (Below.refl vz.heap.size vz).alloc (Nat.le_refl _) (.cells #[.int .i8 0, .int .i64 0, .int .i8 0, .int .i64 0] 26)
    have H8 := Kp.mk (rl_new 0 0 0 0 HB.1.below)
    have NH8HL := Kp.mk HL.1.ne
    have NH8HH := Kp.mk HH.1.ne
    have NH8HA := Kp.mk HA.1.ne
    have NH8HC := Kp.mk HC.1.ne
    have NH8HD := Kp.mk HD.1.ne
    have NH8HE := Kp.mk HE.1.ne
    have HB := Kp.mk (HB.1.step hbl)
    have HL := Kp.mk (HL.1.step hbl)
    have HH := Kp.mk (HH.1.step hbl)
    have HA := Kp.mk (HA.1.step hbl)
    have HC := Kp.mk (HC.1.step hbl)
    have HD := Kp.mk (HD.1.step hbl)
    have HE := Kp.mk (HE.1.step hbl)
    clear hbl
    generalize vz.alloc (.cells #[.int .i8 0, .int .i64 0, .int .i8 0, .int .i64 0] 26) = v8 at *
    generalize vz.heap.size = gH8 at *
    refine hK.out _ _ ?_ (fun hHeld => ?_)
    ·exact ⟨HA.1.c0, HA.1.c1, HA.1.c2, HA.1.c3⟩
    clear hK K
    try simp only [pt]
    refine rd [1] ?_
    refine AllReadyH.cons (dropAt rfl) (fun K hK => ?_) AllReadyH.nil
    ·clear hHeld
     go_simp
     go_at_call 29
     with_reducible refine (y39.1 _).mono ?_
     rintro e v9 ⟨rfl, hb⟩
     have HB := Kp.mk (HB.1.step hb)
     have HL := Kp.mk (HL.1.step hb)
     have HH := Kp.mk (HH.1.step hb)
     have HA := Kp.mk (HA.1.step hb)
     have HC := Kp.mk (HC.1.step hb)
     have HD := Kp.mk (HD.1.step hb)
     have HE := Kp.mk (HE.1.step hb)
     have H8 := Kp.mk (H8.1.step hb)
     clear hb
     go_wp2_with fail
     refine hK.out _ _ ?_ (fun hHeld => ?_)
     ·exact ⟨HA.1.c0, HA.1.c1, HA.1.c2, HA.1.c3⟩
     clear hK K
     try simp only [pt]
     refine rd [2] ?_
     refine AllReadyH.cons (dropAt rfl) (fun K hK => ?_) AllReadyH.nil
     ·clear hHeld
      go_simp
      go_at_call 15
      with_reducible refine (m1.1 _ HB.1.below).mono ?_
      rintro e v10 ⟨rfl, hb⟩
      have HB := Kp.mk (HB.1.step hb)
      have HL := Kp.mk (HL.1.step hb)
      have HH := Kp.mk (HH.1.step hb)
      have HA := Kp.mk (HA.1.step hb)
      have HC := Kp.mk (HC.1.step hb)
      have HD := Kp.mk (HD.1.step hb)
      have HE := Kp.mk (HE.1.step hb)
      have H8 := Kp.mk (H8.1.step hb)
      clear hb
      go_wp2_with fail
      refine hK.out _ _ ?_ (fun hHeld => ?_)
      ·exact ⟨HA.1.c0, HA.1.c1, HA.1.c2, HA.1.c3⟩
      clear hK K
      try simp only [pt]
      refine tk 3 ?_ rfl hHeld ?_ ?_
      rotate_left
      ·(intro w hSw; (try dsimp only at hSw); go_simp; try with_reducible rfl)
      try simp only [pt]
      refine tk 4 ?_ rfl hHeld ?_ ?_
      rotate_left
      ·(intro w hSw; (try dsimp only at hSw); go_simp; try with_reducible rfl)
      try simp only [pt]
      refine tk 5 ?_ rfl hHeld ?_ ?_
      rotate_left
      ·(intro w hSw; (try dsimp only at hSw); go_simp; try with_reducible rfl)
      try simp only [pt]
      refine rd [7] ?_
      refine AllReadyH.cons (dropAt rfl) (fun K hK => ?_) AllReadyH.nil
      ·clear hHeld
       have k0 : v10.cell? ⟨gH8, 0, none⟩ = some (.int .i8 0) := H8.1.c0
       have l0 := H8.1.frozen 0
       have k1 : v10.cell? ⟨gH8, 1, none⟩ = some (.int .i64 0) := H8.1.c1
       have l1 := H8.1.frozen 1
       have k2 : v10.cell? ⟨gH8, 2, none⟩ = some (.int .i8 0) := H8.1.c2
       have l2 := H8.1.frozen 2
       have k3 : v10.cell? ⟨gH8, 3, none⟩ = some (.int .i64 0) := H8.1.c3
       have l3 := H8.1.frozen 3
       go_simp
       clear k0 k1 k2 k3 l0 l1 l2 l3
       have bs0 := H8.1.base
       have HB : Kp (Bl w ((((v10.setCell ⟨gH8, 0, none⟩ (.int .i8 0)).setCell ⟨gH8, 1, none⟩ (.int .i64 3)).setCell ⟨gH8, 2, none⟩ (.int .i8 0)).setCell ⟨gH8, 3, none⟩ (.int .i64 3))) := Kp.mk (Bl.mk (below_setL HB.1.below bs0 0 3 0 3))
       have HL : Kp (ERow w (w.heap.size) (-1) 0 ((((v10.setCell ⟨gH8, 0, none⟩ (.int .i8 0)).setCell ⟨gH8, 1, none⟩ (.int .i64 3)).setCell ⟨gH8, 2, none⟩ (.int .i8 0)).setCell ⟨gH8, 3, none⟩ (.int .i64 3))) := Kp.mk (HL.1.other (fun q => NH8HL.1 q.symm) bs0 0 3 0 3)
       have HH : Kp (ERow w (w.heap.size + 1) 1 0 ((((v10.setCell ⟨gH8, 0, none⟩ (.int .i8 0)).setCell ⟨gH8, 1, none⟩ (.int .i64 3)).setCell ⟨gH8, 2, none⟩ (.int .i8 0)).setCell ⟨gH8, 3, none⟩ (.int .i64 3))) := Kp.mk (HH.1.other (fun q => NH8HH.1 q.symm) bs0 0 3 0 3)
       have HA : Kp (Rl w g3 0 1 0 3 ((((v10.setCell ⟨gH8, 0, none⟩ (.int .i8 0)).setCell ⟨gH8, 1, none⟩ (.int .i64 3)).setCell ⟨gH8, 2, none⟩ (.int .i8 0)).setCell ⟨gH8, 3, none⟩ (.int .i64 3))) := Kp.mk (HA.1.other (fun q => NH8HA.1 q.symm) bs0 0 3 0 3)
       have HC : Kp (Rl w g4 0 4 0 5 ((((v10.setCell ⟨gH8, 0, none⟩ (.int .i8 0)).setCell ⟨gH8, 1, none⟩ (.int .i64 3)).setCell ⟨gH8, 2, none⟩ (.int .i8 0)).setCell ⟨gH8, 3, none⟩ (.int .i64 3))) := Kp.mk (HC.1.other (fun q => NH8HC.1 q.symm) bs0 0 3 0 3)
       have HD : Kp (Rl w g5 (-1) 0 0 3 ((((v10.setCell ⟨gH8, 0, none⟩ (.int .i8 0)).setCell ⟨gH8, 1, none⟩ (.int .i64 3)).setCell ⟨gH8, 2, none⟩ (.int .i8 0)).setCell ⟨gH8, 3, none⟩ (.int .i64 3))) := Kp.mk (HD.1.other (fun q => NH8HD.1 q.symm) bs0 0 3 0 3)
       have HE : Kp (Rl w g6 0 1 0 5 ((((v10.setCell ⟨gH8, 0, none⟩ (.int .i8 0)).setCell ⟨gH8, 1, none⟩ (.int .i64 3)).setCell ⟨gH8, 2, none⟩ (.int .i8 0)).setCell ⟨gH8, 3, none⟩ (.int .i64 3))) := Kp.mk (HE.1.other (fun q => NH8HE.1 q.symm) bs0 0 3 0 3)
       have H8 : Kp (Rl w gH8 0 3 0 3 ((((v10.setCell ⟨gH8, 0, none⟩ (.int .i8 0)).setCell ⟨gH8, 1, none⟩ (.int .i64 3)).setCell ⟨gH8, 2, none⟩ (.int .i8 0)).setCell ⟨gH8, 3, none⟩ (.int .i64 3))) := Kp.mk (H8.1.fill 0 3 0 3)
       clear bs0
       generalize ((((v10.setCell ⟨gH8, 0, none⟩ (.int .i8 0)).setCell ⟨gH8, 1, none⟩ (.int .i64 3)).setCell ⟨gH8, 2, none⟩ (.int .i8 0)).setCell ⟨gH8, 3, none⟩ (.int .i64 3)) = v11 at *
       refine hK.out _ _ ?_ (fun hHeld => ?_)
       ·exact ⟨HA.1.c0, HA.1.c1, HA.1.c2, HA.1.c3⟩
       clear hK K
       try simp only [pt]
       refine tk 8 ?_ rfl hHeld ?_ ?_
       rotate_left
       ·(intro w hSw; (try dsimp only at hSw); go_simp; try with_reducible rfl)
       try simp only [pt]
       refine wpAnyH_done (by kernel_rfl) ?_ _
       clear hHeld
       go_wp2_with fail
       go_meet
       exact ⟨gH8, rfl, rfl, HL, HH, HA, HC, HD, HE, H8, Kp.mk ⟨NH8HL.1, NH8HH.1, NH8HA.1, NH8HC.1, NH8HD.1, NH8HE.1⟩⟩
  case rest =>
   obtain ⟨g8, rfl, rfl, HL, HH, HA, HC, HD, HE, HF, HN8⟩ := hcut
   clear HB
   have HB := Kp.mk (Bl.mk HL.1.below)
   have kHL0 := HL.1.c0
   have kHL1 := HL.1.c1
   have kHH0 := HH.1.c0
   have kHH1 := HH.1.c1
   obtain ⟨kHA0, kHA1, kHA2, kHA3⟩ := HA.1.cs
   obtain ⟨kHC0, kHC1, kHC2, kHC3⟩ := HC.1.cs
   obtain ⟨kHD0, kHD1, kHD2, kHD3⟩ := HD.1.cs
   obtain ⟨kHE0, kHE1, kHE2, kHE3⟩ := HE.1.cs
   obtain ⟨kHF0, kHF1, kHF2, kHF3⟩ := HF.1.cs
   go_wp2_with fail
   refine (m2.1 _ HB.1.below).mono ?_
   rintro e u7 ⟨rfl, hbl⟩
   clear kHL0 kHL1 kHH0 kHH1 kHA0 kHA1 kHA2 kHA3 kHC0 kHC1 kHC2 kHC3 kHD0 kHD1 kHD2 kHD3 kHE0 kHE1 kHE2 kHE3 kHF0 kHF1 kHF2 kHF3
   have HB := Kp.mk (HB.1.step hbl)
   have HL := Kp.mk (HL.1.step hbl)
   have HH := Kp.mk (HH.1.step hbl)
   have HA := Kp.mk (HA.1.step hbl)
   have HC := Kp.mk (HC.1.step hbl)
   have HD := Kp.mk (HD.1.step hbl)
   have HE := Kp.mk (HE.1.step hbl)
   have HF := Kp.mk (HF.1.step hbl)
   clear hbl
   have kHL0 := HL.1.c0
   have kHL1 := HL.1.c1
   have kHH0 := HH.1.c0
   have kHH1 := HH.1.c1
   obtain ⟨kHA0, kHA1, kHA2, kHA3⟩ := HA.1.cs
   obtain ⟨kHC0, kHC1, kHC2, kHC3⟩ := HC.1.cs
   obtain ⟨kHD0, kHD1, kHD2, kHD3⟩ := HD.1.cs
   obtain ⟨kHE0, kHE1, kHE2, kHE3⟩ := HE.1.cs
   obtain ⟨kHF0, kHF1, kHF2, kHF3⟩ := HF.1.cs
   go_upto_region 8 with fail
   clear kHL0 kHL1 kHH0 kHH1 kHA0 kHA1 kHA2 kHA3 kHC0 kHC1 kHC2 kHC3 kHD0 kHD1 kHD2 kHD3 kHE0 kHE1 kHE2 kHE3 kHF0 kHF1 kHF2 kHF3
   have HG := Kp.mk (rl_new 0 0 0 0 HB.1.below)
   have hbl := (Below.refl u7.heap.size u7).alloc (Nat.le_refl _) (.cells #[.int .i8 0, .int .i64 0, .int .i8 0, .int .i64 0] 26)
   have HB := Kp.mk (HB.1.step hbl)
   have HL := Kp.mk (HL.1.step hbl)
   have HH := Kp.mk (HH.1.step hbl)
   have HA := Kp.mk (HA.1.step hbl)
   have HC := Kp.mk (HC.1.step hbl)
   have HD := Kp.mk (HD.1.step hbl)
   have HE := Kp.mk (HE.1.step hbl)
   have HF := Kp.mk (HF.1.step hbl)
   clear hbl
   generalize u7.alloc (.cells #[.int .i8 0, .int .i64 0, .int .i8 0, .int .i64 0] 26) = u8 at *
   generalize u7.heap.size = g10 at *
   have kHL0 := HL.1.c0
   have kHL1 := HL.1.c1
   have kHH0 := HH.1.c0
   have kHH1 := HH.1.c1
   obtain ⟨kHA0, kHA1, kHA2, kHA3⟩ := HA.1.cs
   obtain ⟨kHC0, kHC1, kHC2, kHC3⟩ := HC.1.cs
   obtain ⟨kHD0, kHD1, kHD2, kHD3⟩ := HD.1.cs
   obtain ⟨kHE0, kHE1, kHE2, kHE3⟩ := HE.1.cs
   obtain ⟨kHF0, kHF1, kHF2, kHF3⟩ := HF.1.cs
   obtain ⟨kHG0, kHG1, kHG2, kHG3⟩ := HG.1.cs
   have hbl := (Below.refl u8.heap.size u8).drew
   have HBz := Kp.mk (HB.1.step hbl)
   have HLz := Kp.mk (HL.1.step hbl)
   have HHz := Kp.mk (HH.1.step hbl)
   have HAz := Kp.mk (HA.1.step hbl)
   have HCz := Kp.mk (HC.1.step hbl)
   have HDz := Kp.mk (HD.1.step hbl)
   have HEz := Kp.mk (HE.1.step hbl)
   have HFz := Kp.mk (HF.1.step hbl)
   have HGz := Kp.mk (HG.1.step hbl)
   have kHL0z := HLz.1.c0
   have kHL1z := HLz.1.c1
   have kHH0z := HHz.1.c0
   have kHH1z := HHz.1.c1
   have kHA0z := HAz.1.c0
   have kHA1z := HAz.1.c1
   have kHA2z := HAz.1.c2
   have kHA3z := HAz.1.c3
   have kHC0z := HCz.1.c0
   have kHC1z := HCz.1.c1
   have kHC2z := HCz.1.c2
   have kHC3z := HCz.1.c3
   have kHD0z := HDz.1.c0
   have kHD1z := HDz.1.c1
   have kHD2z := HDz.1.c2
   have kHD3z := HDz.1.c3
   have kHE0z := HEz.1.c0
   have kHE1z := HEz.1.c1
   have kHE2z := HEz.1.c2
   have kHE3z := HEz.1.c3
   have kHF0z := HFz.1.c0
   have kHF1z := HFz.1.c1
   have kHF2z := HFz.1.c2
   have kHF3z := HFz.1.c3
   have kHG0z := HGz.1.c0
   have kHG1z := HGz.1.c1
   have kHG2z := HGz.1.c2
   have kHG3z := HGz.1.c3
   clear hbl
   go_region_held3 (fun w' => w'.cell? ⟨w.heap.size, 0, none⟩ = some (.int .i8 (-1)) ∧ w'.cell? ⟨w.heap.size, 1, none⟩ = some (.int .i64 0) ∧ w'.cell? ⟨w.heap.size + 1, 0, none⟩ = some (.int .i8 1) ∧ w'.cell? ⟨w.heap.size + 1, 1, none⟩ = some (.int .i64 0) ∧ w'.cell? ⟨g3, 0, none⟩ = some (.int .i8 0) ∧ w'.cell? ⟨g3, 1, none⟩ = some (.int .i64 1) ∧ w'.cell? ⟨g3, 2, none⟩ = some (.int .i8 0) ∧ w'.cell? ⟨g3, 3, none⟩ = some (.int .i64 3) ∧ w'.cell? ⟨g4, 0, none⟩ = some (.int .i8 0) ∧ w'.cell? ⟨g4, 1, none⟩ = some (.int .i64 4) ∧ w'.cell? ⟨g4, 2, none⟩ = some (.int .i8 0) ∧ w'.cell? ⟨g4, 3, none⟩ = some (.int .i64 5) ∧ w'.cell? ⟨g5, 0, none⟩ = some (.int .i8 (-1)) ∧ w'.cell? ⟨g5, 1, none⟩ = some (.int .i64 0) ∧ w'.cell? ⟨g5, 2, none⟩ = some (.int .i8 0) ∧ w'.cell? ⟨g5, 3, none⟩ = some (.int .i64 3) ∧ w'.cell? ⟨g6, 0, none⟩ = some (.int .i8 0) ∧ w'.cell? ⟨g6, 1, none⟩ = some (.int .i64 1) ∧ w'.cell? ⟨g6, 2, none⟩ = some (.int .i8 0) ∧ w'.cell? ⟨g6, 3, none⟩ = some (.int .i64 5) ∧ w'.cell? ⟨g8, 0, none⟩ = some (.int .i8 0) ∧ w'.cell? ⟨g8, 1, none⟩ = some (.int .i64 3) ∧ w'.cell? ⟨g8, 2, none⟩ = some (.int .i8 0) ∧ w'.cell? ⟨g8, 3, none⟩ = some (.int .i64 3) ∧ w'.cell? ⟨g10, 0, none⟩ = some (.int .i8 0) ∧ w'.cell? ⟨g10, 1, none⟩ = some (.int .i64 0) ∧ w'.cell? ⟨g10, 2, none⟩ = some (.int .i8 0) ∧ w'.cell? ⟨g10, 3, none⟩ = some (.int .i64 0)) (first | (with_reducible exact ⟨kHL0, kHL1, kHH0, kHH1, kHA0, kHA1, kHA2, kHA3, kHC0, kHC1, kHC2, kHC3, kHD0, kHD1, kHD2, kHD3, kHE0, kHE1, kHE2, kHE3, kHF0, kHF1, kHF2, kHF3, kHG0, kHG1, kHG2, kHG3⟩) | (with_reducible exact ⟨kHL0z, kHL1z, kHH0z, kHH1z, kHA0z, kHA1z, kHA2z, kHA3z, kHC0z, kHC1z, kHC2z, kHC3z, kHD0z, kHD1z, kHD2z, kHD3z, kHE0z, kHE1z, kHE2z, kHE3z, kHF0z, kHF1z, kHF2z, kHF3z, kHG0z, kHG1z, kHG2z, kHG3z⟩) | (with_reducible exact ⟨HL_u9.1.c0, HL_u9.1.c1, HH_u9.1.c0, HH_u9.1.c1, HA_u9.1.c0, HA_u9.1.c1, HA_u9.1.c2, HA_u9.1.c3, HC_u9.1.c0, HC_u9.1.c1, HC_u9.1.c2, HC_u9.1.c3, HD_u9.1.c0, HD_u9.1.c1, HD_u9.1.c2, HD_u9.1.c3, HE_u9.1.c0, HE_u9.1.c1, HE_u9.1.c2, HE_u9.1.c3, HF_u9.1.c0, HF_u9.1.c1, HF_u9.1.c2, HF_u9.1.c3, HG_u9.1.c0, HG_u9.1.c1, HG_u9.1.c2, HG_u9.1.c3⟩) | (with_reducible exact ⟨HL_u10.1.c0, HL_u10.1.c1, HH_u10.1.c0, HH_u10.1.c1, HA_u10.1.c0, HA_u10.1.c1, HA_u10.1.c2, HA_u10.1.c3, HC_u10.1.c0, HC_u10.1.c1, HC_u10.1.c2, HC_u10.1.c3, HD_u10.1.c0, HD_u10.1.c1, HD_u10.1.c2, HD_u10.1.c3, HE_u10.1.c0, HE_u10.1.c1, HE_u10.1.c2, HE_u10.1.c3, HF_u10.1.c0, HF_u10.1.c1, HF_u10.1.c2, HF_u10.1.c3, HG_u10.1.c0, HG_u10.1.c1, HG_u10.1.c2, HG_u10.1.c3⟩) | (with_reducible exact ⟨HL_u11.1.c0, HL_u11.1.c1, HH_u11.1.c0, HH_u11.1.c1, HA_u11.1.c0, HA_u11.1.c1, HA_u11.1.c2, HA_u11.1.c3, HC_u11.1.c0, HC_u11.1.c1, HC_u11.1.c2, HC_u11.1.c3, HD_u11.1.c0, HD_u11.1.c1, HD_u11.1.c2, HD_u11.1.c3, HE_u11.1.c0, HE_u11.1.c1, HE_u11.1.c2, HE_u11.1.c3, HF_u11.1.c0, HF_u11.1.c1, HF_u11.1.c2, HF_u11.1.c3, HG_u11.1.c0, HG_u11.1.c1, HG_u11.1.c2, HG_u11.1.c3⟩) | (with_reducible exact ⟨HL_u12.1.c0, HL_u12.1.c1, HH_u12.1.c0, HH_u12.1.c1, HA_u12.1.c0, HA_u12.1.c1, HA_u12.1.c2, HA_u12.1.c3, HC_u12.1.c0, HC_u12.1.c1, HC_u12.1.c2, HC_u12.1.c3, HD_u12.1.c0, HD_u12.1.c1, HD_u12.1.c2, HD_u12.1.c3, HE_u12.1.c0, HE_u12.1.c1, HE_u12.1.c2, HE_u12.1.c3, HF_u12.1.c0, HF_u12.1.c1, HF_u12.1.c2, HF_u12.1.c3, HG_u12.1.c0, HG_u12.1.c1, HG_u12.1.c2, HG_u12.1.c3⟩) | (with_reducible exact ⟨HL_u13.1.c0, HL_u13.1.c1, HH_u13.1.c0, HH_u13.1.c1, HA_u13.1.c0, HA_u13.1.c1, HA_u13.1.c2, HA_u13.1.c3, HC_u13.1.c0, HC_u13.1.c1, HC_u13.1.c2, HC_u13.1.c3, HD_u13.1.c0, HD_u13.1.c1, HD_u13.1.c2, HD_u13.1.c3, HE_u13.1.c0, HE_u13.1.c1, HE_u13.1.c2, HE_u13.1.c3, HF_u13.1.c0, HF_u13.1.c1, HF_u13.1.c2, HF_u13.1.c3, HG_u13.1.c0, HG_u13.1.c1, HG_u13.1.c2, HG_u13.1.c3⟩) | go_keep)
    (first
     | (go_at_call 29; (with_reducible show Calls _ _ _ u8.drew _); (with_reducible refine (y15.1 _).mono ?_); rintro e u9 ⟨rfl, hb⟩; have HB_u9 := Kp.mk (HBz.1.step hb); have HL_u9 := Kp.mk (HLz.1.step hb); have HH_u9 := Kp.mk (HHz.1.step hb); have HA_u9 := Kp.mk (HAz.1.step hb); have HC_u9 := Kp.mk (HCz.1.step hb); have HD_u9 := Kp.mk (HDz.1.step hb); have HE_u9 := Kp.mk (HEz.1.step hb); have HF_u9 := Kp.mk (HFz.1.step hb); have HG_u9 := Kp.mk (HGz.1.step hb); clear hb)
     | (go_at_call 17; (with_reducible show Calls _ _ _ u9 _); (with_reducible refine (f1.1 _).mono ?_); rintro e u10 ⟨rfl, hb⟩; have HB_u10 := Kp.mk (HB_u9.1.step hb); have HL_u10 := Kp.mk (HL_u9.1.step hb); have HH_u10 := Kp.mk (HH_u9.1.step hb); have HA_u10 := Kp.mk (HA_u9.1.step hb); have HC_u10 := Kp.mk (HC_u9.1.step hb); have HD_u10 := Kp.mk (HD_u9.1.step hb); have HE_u10 := Kp.mk (HE_u9.1.step hb); have HF_u10 := Kp.mk (HF_u9.1.step hb); have HG_u10 := Kp.mk (HG_u9.1.step hb); clear hb)
     | (go_at_call 29; (with_reducible show Calls _ _ _ u10 _); (with_reducible refine (y33.1 _).mono ?_); rintro e u11 ⟨rfl, hb⟩; have HB_u11 := Kp.mk (HB_u10.1.step hb); have HL_u11 := Kp.mk (HL_u10.1.step hb); have HH_u11 := Kp.mk (HH_u10.1.step hb); have HA_u11 := Kp.mk (HA_u10.1.step hb); have HC_u11 := Kp.mk (HC_u10.1.step hb); have HD_u11 := Kp.mk (HD_u10.1.step hb); have HE_u11 := Kp.mk (HE_u10.1.step hb); have HF_u11 := Kp.mk (HF_u10.1.step hb); have HG_u11 := Kp.mk (HG_u10.1.step hb); clear hb)
     | (go_at_call 17; (with_reducible show Calls _ _ _ u11 _); (with_reducible refine (f2.1 _).mono ?_); rintro e u12 ⟨rfl, hb⟩; have HB_u12 := Kp.mk (HB_u11.1.step hb); have HL_u12 := Kp.mk (HL_u11.1.step hb); have HH_u12 := Kp.mk (HH_u11.1.step hb); have HA_u12 := Kp.mk (HA_u11.1.step hb); have HC_u12 := Kp.mk (HC_u11.1.step hb); have HD_u12 := Kp.mk (HD_u11.1.step hb); have HE_u12 := Kp.mk (HE_u11.1.step hb); have HF_u12 := Kp.mk (HF_u11.1.step hb); have HG_u12 := Kp.mk (HG_u11.1.step hb); clear hb)
     | (go_at_call 17; (with_reducible show Calls _ _ _ u12 _); (with_reducible refine (f3.1 _).mono ?_); rintro e u13 ⟨rfl, hb⟩; have HB_u13 := Kp.mk (HB_u12.1.step hb); have HL_u13 := Kp.mk (HL_u12.1.step hb); have HH_u13 := Kp.mk (HH_u12.1.step hb); have HA_u13 := Kp.mk (HA_u12.1.step hb); have HC_u13 := Kp.mk (HC_u12.1.step hb); have HD_u13 := Kp.mk (HD_u12.1.step hb); have HE_u13 := Kp.mk (HE_u12.1.step hb); have HF_u13 := Kp.mk (HF_u12.1.step hb); have HG_u13 := Kp.mk (HG_u12.1.step hb); clear hb))
   have HB := HB_u13
   have HL := HL_u13
   have HH := HH_u13
   have HA := HA_u13
   have HC := HC_u13
   have HD := HD_u13
   have HE := HE_u13
   have HF := HF_u13
   have HG := HG_u13
   have kHL0 := HL.1.c0
   have kHL1 := HL.1.c1
   have kHH0 := HH.1.c0
   have kHH1 := HH.1.c1
   obtain ⟨kHA0, kHA1, kHA2, kHA3⟩ := HA.1.cs
   obtain ⟨kHC0, kHC1, kHC2, kHC3⟩ := HC.1.cs
   obtain ⟨kHD0, kHD1, kHD2, kHD3⟩ := HD.1.cs
   obtain ⟨kHE0, kHE1, kHE2, kHE3⟩ := HE.1.cs
   obtain ⟨kHF0, kHF1, kHF2, kHF3⟩ := HF.1.cs
   obtain ⟨kHG0, kHG1, kHG2, kHG3⟩ := HG.1.cs
   clear kHL0 kHL1 kHH0 kHH1 kHA0 kHA1 kHA2 kHA3 kHC0 kHC1 kHC2 kHC3 kHD0 kHD1 kHD2 kHD3 kHE0 kHE1 kHE2 kHE3 kHF0 kHF1 kHF2 kHF3 kHG0 kHG1 kHG2 kHG3
   clear HG HC
   have kHL0 := HL.1.c0
   have kHL1 := HL.1.c1
   have kHH0 := HH.1.c0
   have kHH1 := HH.1.c1
   obtain ⟨kHA0, kHA1, kHA2, kHA3⟩ := HA.1.cs
   obtain ⟨kHD0, kHD1, kHD2, kHD3⟩ := HD.1.cs
   obtain ⟨kHE0, kHE1, kHE2, kHE3⟩ := HE.1.cs
   obtain ⟨kHF0, kHF1, kHF2, kHF3⟩ := HF.1.cs
   go_wp2_with fail
   refine (y35.1 _).mono ?_
   rintro e u14 ⟨rfl, hbl⟩
   clear kHL0 kHL1 kHH0 kHH1 kHA0 kHA1 kHA2 kHA3 kHD0 kHD1 kHD2 kHD3 kHE0 kHE1 kHE2 kHE3 kHF0 kHF1 kHF2 kHF3
   have HB := Kp.mk (HB.1.step hbl)
   have HL := Kp.mk (HL.1.step hbl)
   have HH := Kp.mk (HH.1.step hbl)
   have HA := Kp.mk (HA.1.step hbl)
   have HD := Kp.mk (HD.1.step hbl)
   have HE := Kp.mk (HE.1.step hbl)
   have HF := Kp.mk (HF.1.step hbl)
   clear hbl
   have kHL0 := HL.1.c0
   have kHL1 := HL.1.c1
   have kHH0 := HH.1.c0
   have kHH1 := HH.1.c1
   obtain ⟨kHA0, kHA1, kHA2, kHA3⟩ := HA.1.cs
   obtain ⟨kHD0, kHD1, kHD2, kHD3⟩ := HD.1.cs
   obtain ⟨kHE0, kHE1, kHE2, kHE3⟩ := HE.1.cs
   obtain ⟨kHF0, kHF1, kHF2, kHF3⟩ := HF.1.cs
   go_wp2_with fail
   refine (l1.1 _ HB.1.below).mono ?_
   rintro e u15 ⟨rfl, hbl⟩
   clear kHL0 kHL1 kHH0 kHH1 kHA0 kHA1 kHA2 kHA3 kHD0 kHD1 kHD2 kHD3 kHE0 kHE1 kHE2 kHE3 kHF0 kHF1 kHF2 kHF3
   have HB := Kp.mk (HB.1.step hbl)
   have HL := Kp.mk (HL.1.step hbl)
   have HH := Kp.mk (HH.1.step hbl)
   have HA := Kp.mk (HA.1.step hbl)
   have HD := Kp.mk (HD.1.step hbl)
   have HE := Kp.mk (HE.1.step hbl)
   have HF := Kp.mk (HF.1.step hbl)
   clear hbl
   have kHL0 := HL.1.c0
   have kHL1 := HL.1.c1
   have kHH0 := HH.1.c0
   have kHH1 := HH.1.c1
   obtain ⟨kHA0, kHA1, kHA2, kHA3⟩ := HA.1.cs
   obtain ⟨kHD0, kHD1, kHD2, kHD3⟩ := HD.1.cs
   obtain ⟨kHE0, kHE1, kHE2, kHE3⟩ := HE.1.cs
   obtain ⟨kHF0, kHF1, kHF2, kHF3⟩ := HF.1.cs
   go_wp2_with fail
   refine (l2.1 _ HB.1.below).mono ?_
   rintro e u16 ⟨rfl, hbl⟩
   clear kHL0 kHL1 kHH0 kHH1 kHA0 kHA1 kHA2 kHA3 kHD0 kHD1 kHD2 kHD3 kHE0 kHE1 kHE2 kHE3 kHF0 kHF1 kHF2 kHF3
   have HB := Kp.mk (HB.1.step hbl)
   have HL := Kp.mk (HL.1.step hbl)
   have HH := Kp.mk (HH.1.step hbl)
   have HA := Kp.mk (HA.1.step hbl)
   have HD := Kp.mk (HD.1.step hbl)
   have HE := Kp.mk (HE.1.step hbl)
   have HF := Kp.mk (HF.1.step hbl)
   clear hbl
   have kHL0 := HL.1.c0
   have kHL1 := HL.1.c1
   have kHH0 := HH.1.c0
   have kHH1 := HH.1.c1
   obtain ⟨kHA0, kHA1, kHA2, kHA3⟩ := HA.1.cs
   obtain ⟨kHD0, kHD1, kHD2, kHD3⟩ := HD.1.cs
   obtain ⟨kHE0, kHE1, kHE2, kHE3⟩ := HE.1.cs
   obtain ⟨kHF0, kHF1, kHF2, kHF3⟩ := HF.1.cs
   go_wp2_with fail
   refine (y1m.1 _).mono ?_
   rintro e u17 ⟨rfl, hbl⟩
   clear kHL0 kHL1 kHH0 kHH1 kHA0 kHA1 kHA2 kHA3 kHD0 kHD1 kHD2 kHD3 kHE0 kHE1 kHE2 kHE3 kHF0 kHF1 kHF2 kHF3
   have HB := Kp.mk (HB.1.step hbl)
   have HL := Kp.mk (HL.1.step hbl)
   have HH := Kp.mk (HH.1.step hbl)
   have HA := Kp.mk (HA.1.step hbl)
   have HD := Kp.mk (HD.1.step hbl)
   have HE := Kp.mk (HE.1.step hbl)
   have HF := Kp.mk (HF.1.step hbl)
   clear hbl
   have kHL0 := HL.1.c0
   have kHL1 := HL.1.c1
   have kHH0 := HH.1.c0
   have kHH1 := HH.1.c1
   obtain ⟨kHA0, kHA1, kHA2, kHA3⟩ := HA.1.cs
   obtain ⟨kHD0, kHD1, kHD2, kHD3⟩ := HD.1.cs
   obtain ⟨kHE0, kHE1, kHE2, kHE3⟩ := HE.1.cs
   obtain ⟨kHF0, kHF1, kHF2, kHF3⟩ := HF.1.cs
   go_wp2_with fail
   refine (l3.1 _ HB.1.below).mono ?_
   rintro e u18 ⟨rfl, hbl⟩
   clear kHL0 kHL1 kHH0 kHH1 kHA0 kHA1 kHA2 kHA3 kHD0 kHD1 kHD2 kHD3 kHE0 kHE1 kHE2 kHE3 kHF0 kHF1 kHF2 kHF3
   have HB := Kp.mk (HB.1.step hbl)
   have HL := Kp.mk (HL.1.step hbl)
   have HH := Kp.mk (HH.1.step hbl)
   have HA := Kp.mk (HA.1.step hbl)
   have HD := Kp.mk (HD.1.step hbl)
   have HE := Kp.mk (HE.1.step hbl)
   have HF := Kp.mk (HF.1.step hbl)
   clear hbl
   have kHL0 := HL.1.c0
   have kHL1 := HL.1.c1
   have kHH0 := HH.1.c0
   have kHH1 := HH.1.c1
   obtain ⟨kHA0, kHA1, kHA2, kHA3⟩ := HA.1.cs
   obtain ⟨kHD0, kHD1, kHD2, kHD3⟩ := HD.1.cs
   obtain ⟨kHE0, kHE1, kHE2, kHE3⟩ := HE.1.cs
   obtain ⟨kHF0, kHF1, kHF2, kHF3⟩ := HF.1.cs
   go_wp2_with fail
   refine (h1.1 _ HB.1.below).mono ?_
   rintro e u19 ⟨rfl, hbl⟩
   clear kHL0 kHL1 kHH0 kHH1 kHA0 kHA1 kHA2 kHA3 kHD0 kHD1 kHD2 kHD3 kHE0 kHE1 kHE2 kHE3 kHF0 kHF1 kHF2 kHF3
   have HB := Kp.mk (HB.1.step hbl)
   have HL := Kp.mk (HL.1.step hbl)
   have HH := Kp.mk (HH.1.step hbl)
   have HA := Kp.mk (HA.1.step hbl)
   have HD := Kp.mk (HD.1.step hbl)
   have HE := Kp.mk (HE.1.step hbl)
   have HF := Kp.mk (HF.1.step hbl)
   clear hbl
   have kHL0 := HL.1.c0
   have kHL1 := HL.1.c1
   have kHH0 := HH.1.c0
   have kHH1 := HH.1.c1
   obtain ⟨kHA0, kHA1, kHA2, kHA3⟩ := HA.1.cs
   obtain ⟨kHD0, kHD1, kHD2, kHD3⟩ := HD.1.cs
   obtain ⟨kHE0, kHE1, kHE2, kHE3⟩ := HE.1.cs
   obtain ⟨kHF0, kHF1, kHF2, kHF3⟩ := HF.1.cs
   go_wp2_with fail
   refine (s1.1 _ HB.1.below).mono ?_
   rintro e u20 ⟨rfl, hbl⟩
   clear kHL0 kHL1 kHH0 kHH1 kHA0 kHA1 kHA2 kHA3 kHD0 kHD1 kHD2 kHD3 kHE0 kHE1 kHE2 kHE3 kHF0 kHF1 kHF2 kHF3
   have HB := Kp.mk (HB.1.step hbl)
   have HL := Kp.mk (HL.1.step hbl)
   have HH := Kp.mk (HH.1.step hbl)
   have HA := Kp.mk (HA.1.step hbl)
   have HD := Kp.mk (HD.1.step hbl)
   have HE := Kp.mk (HE.1.step hbl)
   have HF := Kp.mk (HF.1.step hbl)
   clear hbl
   have kHL0 := HL.1.c0
   have kHL1 := HL.1.c1
   have kHH0 := HH.1.c0
   have kHH1 := HH.1.c1
   obtain ⟨kHA0, kHA1, kHA2, kHA3⟩ := HA.1.cs
   obtain ⟨kHD0, kHD1, kHD2, kHD3⟩ := HD.1.cs
   obtain ⟨kHE0, kHE1, kHE2, kHE3⟩ := HE.1.cs
   obtain ⟨kHF0, kHF1, kHF2, kHF3⟩ := HF.1.cs
   go_wp2_with (first
    | refine wpList_store_row' rfl 26 (.tmp 6) (.tmp 129) rfl g6 #[.int .i8 0, .int .i64 (-1), .int .i8 1, .int .i64 0] rfl rfl 26 #[.int .i8 0, .int .i64 1, .int .i8 0, .int .i64 5] HE.1.heap infoRn rfl (four_rn _ _ _ _) ?_)
   clear kHL0 kHL1 kHH0 kHH1 kHA0 kHA1 kHA2 kHA3 kHD0 kHD1 kHD2 kHD3 kHE0 kHE1 kHE2 kHE3 kHF0 kHF1 kHF2 kHF3
   have bs0 := HE.1.base
   have HB := Kp.mk (Bl.mk (below_setRow HB.1.below bs0 #[.int .i8 0, .int .i64 (-1), .int .i8 1, .int .i64 0]))
   have HL := Kp.mk (HL.1.otherRow (fun q => NHEHL.1 q.symm) bs0 #[.int .i8 0, .int .i64 (-1), .int .i8 1, .int .i64 0])
   have HH := Kp.mk (HH.1.otherRow (fun q => NHEHH.1 q.symm) bs0 #[.int .i8 0, .int .i64 (-1), .int .i8 1, .int .i64 0])
   have HA := Kp.mk (HA.1.otherRow (fun q => NHEHA.1 q.symm) bs0 #[.int .i8 0, .int .i64 (-1), .int .i8 1, .int .i64 0])
   have HD := Kp.mk (HD.1.otherRow (fun q => NHEHD.1 q.symm) bs0 #[.int .i8 0, .int .i64 (-1), .int .i8 1, .int .i64 0])
   have HF := Kp.mk (HF.1.otherRow (fun q => HN8.1.2.2.2.2.2 q) bs0 #[.int .i8 0, .int .i64 (-1), .int .i8 1, .int .i64 0])
   have HE := Kp.mk (HE.1.row 0 (-1) 1 0)
   clear bs0
   generalize u20.setRow g6 #[.int .i8 0, .int .i64 (-1), .int .i8 1, .int .i64 0] = u21 at *
   have kHL0 := HL.1.c0
   have kHL1 := HL.1.c1
   have kHH0 := HH.1.c0
   have kHH1 := HH.1.c1
   obtain ⟨kHA0, kHA1, kHA2, kHA3⟩ := HA.1.cs
   obtain ⟨kHD0, kHD1, kHD2, kHD3⟩ := HD.1.cs
   obtain ⟨kHE0, kHE1, kHE2, kHE3⟩ := HE.1.cs
   obtain ⟨kHF0, kHF1, kHF2, kHF3⟩ := HF.1.cs
   refine (y0m.1 _).mono ?_
   rintro e u22 ⟨rfl, hbl⟩
   clear kHL0 kHL1 kHH0 kHH1 kHA0 kHA1 kHA2 kHA3 kHD0 kHD1 kHD2 kHD3 kHE0 kHE1 kHE2 kHE3 kHF0 kHF1 kHF2 kHF3
   have HB := Kp.mk (HB.1.step hbl)
   have HL := Kp.mk (HL.1.step hbl)
   have HH := Kp.mk (HH.1.step hbl)
   have HA := Kp.mk (HA.1.step hbl)
   have HD := Kp.mk (HD.1.step hbl)
   have HE := Kp.mk (HE.1.step hbl)
   have HF := Kp.mk (HF.1.step hbl)
   clear hbl
   have kHL0 := HL.1.c0
   have kHL1 := HL.1.c1
   have kHH0 := HH.1.c0
   have kHH1 := HH.1.c1
   obtain ⟨kHA0, kHA1, kHA2, kHA3⟩ := HA.1.cs
   obtain ⟨kHD0, kHD1, kHD2, kHD3⟩ := HD.1.cs
   obtain ⟨kHE0, kHE1, kHE2, kHE3⟩ := HE.1.cs
   obtain ⟨kHF0, kHF1, kHF2, kHF3⟩ := HF.1.cs
   go_wp2_with fail
   refine (s2.1 _ HB.1.below).mono ?_
   rintro e u23 ⟨rfl, hbl⟩
   clear kHL0 kHL1 kHH0 kHH1 kHA0 kHA1 kHA2 kHA3 kHD0 kHD1 kHD2 kHD3 kHE0 kHE1 kHE2 kHE3 kHF0 kHF1 kHF2 kHF3
   have HB := Kp.mk (HB.1.step hbl)
   have HL := Kp.mk (HL.1.step hbl)
   have HH := Kp.mk (HH.1.step hbl)
   have HA := Kp.mk (HA.1.step hbl)
   have HD := Kp.mk (HD.1.step hbl)
   have HE := Kp.mk (HE.1.step hbl)
   have HF := Kp.mk (HF.1.step hbl)
   clear hbl
   have kHL0 := HL.1.c0
   have kHL1 := HL.1.c1
   have kHH0 := HH.1.c0
   have kHH1 := HH.1.c1
   obtain ⟨kHA0, kHA1, kHA2, kHA3⟩ := HA.1.cs
   obtain ⟨kHD0, kHD1, kHD2, kHD3⟩ := HD.1.cs
   obtain ⟨kHE0, kHE1, kHE2, kHE3⟩ := HE.1.cs
   obtain ⟨kHF0, kHF1, kHF2, kHF3⟩ := HF.1.cs
   go_upto_region 17 with (first
    | refine wpList_store_row' rfl 26 (.tmp 8) (.tmp 134) rfl g8 #[.int .i8 0, .int .i64 0, .int .i8 0, .int .i64 0] rfl rfl 26 #[.int .i8 0, .int .i64 3, .int .i8 0, .int .i64 3] HF.1.heap infoRn rfl (four_rn _ _ _ _) ?_)
   clear kHL0 kHL1 kHH0 kHH1 kHA0 kHA1 kHA2 kHA3 kHD0 kHD1 kHD2 kHD3 kHE0 kHE1 kHE2 kHE3 kHF0 kHF1 kHF2 kHF3
   have bs0 := HF.1.base
   have HB := Kp.mk (Bl.mk (below_setRow HB.1.below bs0 #[.int .i8 0, .int .i64 0, .int .i8 0, .int .i64 0]))
   have HL := Kp.mk (HL.1.otherRow (fun q => HN8.1.1 q.symm) bs0 #[.int .i8 0, .int .i64 0, .int .i8 0, .int .i64 0])
   have HH := Kp.mk (HH.1.otherRow (fun q => HN8.1.2.1 q.symm) bs0 #[.int .i8 0, .int .i64 0, .int .i8 0, .int .i64 0])
   have HA := Kp.mk (HA.1.otherRow (fun q => HN8.1.2.2.1 q.symm) bs0 #[.int .i8 0, .int .i64 0, .int .i8 0, .int .i64 0])
   have HD := Kp.mk (HD.1.otherRow (fun q => HN8.1.2.2.2.2.1 q.symm) bs0 #[.int .i8 0, .int .i64 0, .int .i8 0, .int .i64 0])
   have HE := Kp.mk (HE.1.otherRow (fun q => HN8.1.2.2.2.2.2 q.symm) bs0 #[.int .i8 0, .int .i64 0, .int .i8 0, .int .i64 0])
   have HF := Kp.mk (HF.1.row 0 0 0 0)
   clear bs0
   generalize u23.setRow g8 #[.int .i8 0, .int .i64 0, .int .i8 0, .int .i64 0] = u24 at *
   have kHL0 := HL.1.c0
   have kHL1 := HL.1.c1
   have kHH0 := HH.1.c0
   have kHH1 := HH.1.c1
   obtain ⟨kHA0, kHA1, kHA2, kHA3⟩ := HA.1.cs
   obtain ⟨kHD0, kHD1, kHD2, kHD3⟩ := HD.1.cs
   obtain ⟨kHE0, kHE1, kHE2, kHE3⟩ := HE.1.cs
   obtain ⟨kHF0, kHF1, kHF2, kHF3⟩ := HF.1.cs
   go_wp2_with fail
   refine (g1.1 _).mono ?_
   rintro e u25 ⟨rfl, hbl⟩
   clear kHL0 kHL1 kHH0 kHH1 kHA0 kHA1 kHA2 kHA3 kHD0 kHD1 kHD2 kHD3 kHE0 kHE1 kHE2 kHE3 kHF0 kHF1 kHF2 kHF3
   have HB := Kp.mk (HB.1.step hbl)
   have HL := Kp.mk (HL.1.step hbl)
   have HH := Kp.mk (HH.1.step hbl)
   have HA := Kp.mk (HA.1.step hbl)
   have HD := Kp.mk (HD.1.step hbl)
   have HE := Kp.mk (HE.1.step hbl)
   have HF := Kp.mk (HF.1.step hbl)
   clear hbl
   have kHL0 := HL.1.c0
   have kHL1 := HL.1.c1
   have kHH0 := HH.1.c0
   have kHH1 := HH.1.c1
   obtain ⟨kHA0, kHA1, kHA2, kHA3⟩ := HA.1.cs
   obtain ⟨kHD0, kHD1, kHD2, kHD3⟩ := HD.1.cs
   obtain ⟨kHE0, kHE1, kHE2, kHE3⟩ := HE.1.cs
   obtain ⟨kHF0, kHF1, kHF2, kHF3⟩ := HF.1.cs
   go_wp2_with fail
   refine (g2.1 _).mono ?_
   rintro e u26 ⟨rfl, hbl⟩
   clear kHL0 kHL1 kHH0 kHH1 kHA0 kHA1 kHA2 kHA3 kHD0 kHD1 kHD2 kHD3 kHE0 kHE1 kHE2 kHE3 kHF0 kHF1 kHF2 kHF3
   have HB := Kp.mk (HB.1.step hbl)
   have HL := Kp.mk (HL.1.step hbl)
   have HH := Kp.mk (HH.1.step hbl)
   have HA := Kp.mk (HA.1.step hbl)
   have HD := Kp.mk (HD.1.step hbl)
   have HE := Kp.mk (HE.1.step hbl)
   have HF := Kp.mk (HF.1.step hbl)
   clear hbl
   have kHL0 := HL.1.c0
   have kHL1 := HL.1.c1
   have kHH0 := HH.1.c0
   have kHH1 := HH.1.c1
   obtain ⟨kHA0, kHA1, kHA2, kHA3⟩ := HA.1.cs
   obtain ⟨kHD0, kHD1, kHD2, kHD3⟩ := HD.1.cs
   obtain ⟨kHE0, kHE1, kHE2, kHE3⟩ := HE.1.cs
   obtain ⟨kHF0, kHF1, kHF2, kHF3⟩ := HF.1.cs
   clear kHL0 kHL1 kHH0 kHH1 kHA0 kHA1 kHA2 kHA3 kHD0 kHD1 kHD2 kHD3 kHE0 kHE1 kHE2 kHE3 kHF0 kHF1 kHF2 kHF3
   clear HH HA HD HF
   have kHL0 := HL.1.c0
   have kHL1 := HL.1.c1
   obtain ⟨kHE0, kHE1, kHE2, kHE3⟩ := HE.1.cs
   go_upto_region 20 with fail
   clear kHL0 kHL1 kHE0 kHE1 kHE2 kHE3
   have HS := Kp.mk (sx_new 9 HB.1.below)
   have hw0 := wx_new 3 HS.1.below
   rw [World.size_alloc] at hw0
   have HW := Kp.mk hw0
   clear hw0
   have NSHE := Kp.mk HE.1.lt
   have HS := Kp.mk (HS.1.step ((Below.refl (u26.alloc (.cells #[.string ⟨#[45, 105, 110, 102, 46, 46, 45, 51]⟩, .string ⟨#[53, 46, 46, 51]⟩, .string ⟨#[105, 110, 102, 46, 46, 105, 110, 102]⟩, .string ⟨#[49, 46, 46, 46, 51]⟩] 9)).heap.size _).alloc (Nat.le_refl _) (.cells #[.int .i64 0, .int .i64 12, .int .i64 4, .int .i64 5] 3)))
   have hbl := ((Below.refl u26.heap.size u26).alloc (Nat.le_refl _) (.cells #[.string ⟨#[45, 105, 110, 102, 46, 46, 45, 51]⟩, .string ⟨#[53, 46, 46, 51]⟩, .string ⟨#[105, 110, 102, 46, 46, 105, 110, 102]⟩, .string ⟨#[49, 46, 46, 46, 51]⟩] 9)).alloc (by simp) (.cells #[.int .i64 0, .int .i64 12, .int .i64 4, .int .i64 5] 3)
   have HB := Kp.mk (HB.1.step hbl)
   have HL := Kp.mk (HL.1.step hbl)
   have HE := Kp.mk (HE.1.step hbl)
   clear hbl
   generalize (u26.alloc (.cells #[.string ⟨#[45, 105, 110, 102, 46, 46, 45, 51]⟩, .string ⟨#[53, 46, 46, 51]⟩, .string ⟨#[105, 110, 102, 46, 46, 105, 110, 102]⟩, .string ⟨#[49, 46, 46, 46, 51]⟩] 9)).alloc (.cells #[.int .i64 0, .int .i64 12, .int .i64 4, .int .i64 5] 3) = u27 at *
   generalize u26.heap.size = gs at *
   go_wp2_with fail
   go_loopw [13, 20] (fun _ k wr => ∃ j : Nat, j ≤ 4 ∧ k = .int .i64 (j : Int) ∧ Kp (ERow w (w.heap.size) (-1) 0 wr) ∧ (∃ f d g e : Int, Kp (Rl w g6 f d g e wr)) ∧ Kp (Sx w gs wr) ∧ Kp (Wx w (gs + 1) wr)) (fun _ k _ => 4 - (intOf k).toNat)
   case atStart => exact ⟨0, by omega, rfl, HL, ⟨_, _, _, _, HE⟩, HS, HW⟩
   case round =>
    obtain ⟨j, hj, rfl, HL, ⟨xf, xd, xg, xe, HE⟩, HS, HW⟩ := hrel
    have HB := Kp.mk (Bl.mk HL.1.below)
    have ns := NSHE.1
    have n1 := Kp.mk (show ¬ gs = g6 by omega)
    have n2 := Kp.mk (show ¬ gs + 1 = g6 by omega)
    clear ns
    by_cases hlt : j < 4
    ·have w1 : IntKind.i64.wrap ((j : Int) + 1) = (j : Int) + 1 := IntWalk.i64_in _ (by omega)
     rcases (show j = 0 ∨ j = 1 ∨ j = 2 ∨ j = 3 by omega) with rfl | rfl | rfl | rfl
     ·have kHL0 := HL.1.c0
      have kHL1 := HL.1.c1
      obtain ⟨kHE0, kHE1, kHE2, kHE3⟩ := HE.1.cs
      obtain ⟨kHS0, kHS1, kHS2, kHS3⟩ := HS.1.cs
      obtain ⟨kHW0, kHW1, kHW2, kHW3⟩ := HW.1.cs
      go_wp2_with fail
      refine (p0.1 _ HB.1.below).mono ?_
      rintro e u101 ⟨rfl, hbl⟩
      clear kHL0 kHL1 kHE0 kHE1 kHE2 kHE3 kHS0 kHS1 kHS2 kHS3 kHW0 kHW1 kHW2 kHW3
      have HB := Kp.mk (HB.1.step hbl)
      have HL := Kp.mk (HL.1.step hbl)
      have HE := Kp.mk (HE.1.step hbl)
      have HS := Kp.mk (HS.1.step hbl)
      have HW := Kp.mk (HW.1.step hbl)
      clear hbl
      have kHL0 := HL.1.c0
      have kHL1 := HL.1.c1
      obtain ⟨kHE0, kHE1, kHE2, kHE3⟩ := HE.1.cs
      obtain ⟨kHS0, kHS1, kHS2, kHS3⟩ := HS.1.cs
      obtain ⟨kHW0, kHW1, kHW2, kHW3⟩ := HW.1.cs
      go_upto_region 24 with (first
       | refine wpList_store_row' rfl 26 (.tmp 6) (.tmp 162) rfl g6 #[.int .i8 (-1), .int .i64 0, .int .i8 0, .int .i64 (-3)] rfl rfl 26 #[.int .i8 xf, .int .i64 xd, .int .i8 xg, .int .i64 xe] HE.1.heap infoRn rfl (four_rn _ _ _ _) ?_)
      clear kHL0 kHL1 kHE0 kHE1 kHE2 kHE3 kHS0 kHS1 kHS2 kHS3 kHW0 kHW1 kHW2 kHW3
      have bs0 := HE.1.base
      have HB := Kp.mk (Bl.mk (below_setRow HB.1.below bs0 #[.int .i8 (-1), .int .i64 0, .int .i8 0, .int .i64 (-3)]))
      have HL := Kp.mk (HL.1.otherRow (fun q => NHEHL.1 q.symm) bs0 #[.int .i8 (-1), .int .i64 0, .int .i8 0, .int .i64 (-3)])
      have HS := Kp.mk (HS.1.row n1.1 bs0 #[.int .i8 (-1), .int .i64 0, .int .i8 0, .int .i64 (-3)])
      have HW := Kp.mk (HW.1.row n2.1 bs0 #[.int .i8 (-1), .int .i64 0, .int .i8 0, .int .i64 (-3)])
      have HE := Kp.mk (HE.1.row (-1) 0 0 (-3))
      clear bs0
      generalize u101.setRow g6 #[.int .i8 (-1), .int .i64 0, .int .i8 0, .int .i64 (-3)] = u102 at *
      have kHL0 := HL.1.c0
      have kHL1 := HL.1.c1
      obtain ⟨kHE0, kHE1, kHE2, kHE3⟩ := HE.1.cs
      obtain ⟨kHS0, kHS1, kHS2, kHS3⟩ := HS.1.cs
      obtain ⟨kHW0, kHW1, kHW2, kHW3⟩ := HW.1.cs
      have hbl := (Below.refl u102.heap.size u102).drew
      have HBz := Kp.mk (HB.1.step hbl)
      have HLz := Kp.mk (HL.1.step hbl)
      have HEz := Kp.mk (HE.1.step hbl)
      have HSz := Kp.mk (HS.1.step hbl)
      have HWz := Kp.mk (HW.1.step hbl)
      have kHL0z := HLz.1.c0
      have kHL1z := HLz.1.c1
      have kHE0z := HEz.1.c0
      have kHE1z := HEz.1.c1
      have kHE2z := HEz.1.c2
      have kHE3z := HEz.1.c3
      have kHS0z := HSz.1.c0
      have kHS1z := HSz.1.c1
      have kHS2z := HSz.1.c2
      have kHS3z := HSz.1.c3
      have kHW0z := HWz.1.c0
      have kHW1z := HWz.1.c1
      have kHW2z := HWz.1.c2
      have kHW3z := HWz.1.c3
      clear hbl
      go_region_held3 (fun w' => w'.cell? ⟨w.heap.size, 0, none⟩ = some (.int .i8 (-1)) ∧ w'.cell? ⟨w.heap.size, 1, none⟩ = some (.int .i64 0) ∧ w'.cell? ⟨g6, 0, none⟩ = some (.int .i8 (-1)) ∧ w'.cell? ⟨g6, 1, none⟩ = some (.int .i64 0) ∧ w'.cell? ⟨g6, 2, none⟩ = some (.int .i8 0) ∧ w'.cell? ⟨g6, 3, none⟩ = some (.int .i64 (-3)) ∧ w'.cell? ⟨gs, 0, none⟩ = some (.string ⟨#[45, 105, 110, 102, 46, 46, 45, 51]⟩) ∧ w'.cell? ⟨gs, 1, none⟩ = some (.string ⟨#[53, 46, 46, 51]⟩) ∧ w'.cell? ⟨gs, 2, none⟩ = some (.string ⟨#[105, 110, 102, 46, 46, 105, 110, 102]⟩) ∧ w'.cell? ⟨gs, 3, none⟩ = some (.string ⟨#[49, 46, 46, 46, 51]⟩) ∧ w'.cell? ⟨gs + 1, 0, none⟩ = some (.int .i64 0) ∧ w'.cell? ⟨gs + 1, 1, none⟩ = some (.int .i64 12) ∧ w'.cell? ⟨gs + 1, 2, none⟩ = some (.int .i64 4) ∧ w'.cell? ⟨gs + 1, 3, none⟩ = some (.int .i64 5)) (first | (with_reducible exact ⟨kHL0, kHL1, kHE0, kHE1, kHE2, kHE3, kHS0, kHS1, kHS2, kHS3, kHW0, kHW1, kHW2, kHW3⟩) | (with_reducible exact ⟨kHL0z, kHL1z, kHE0z, kHE1z, kHE2z, kHE3z, kHS0z, kHS1z, kHS2z, kHS3z, kHW0z, kHW1z, kHW2z, kHW3z⟩) | (with_reducible exact ⟨HL_u103.1.c0, HL_u103.1.c1, HE_u103.1.c0, HE_u103.1.c1, HE_u103.1.c2, HE_u103.1.c3, HS_u103.1.c0, HS_u103.1.c1, HS_u103.1.c2, HS_u103.1.c3, HW_u103.1.c0, HW_u103.1.c1, HW_u103.1.c2, HW_u103.1.c3⟩) | go_keep)
       (first
        | (go_at_call 28; (with_reducible show Calls _ _ _ u102.drew _); (with_reducible refine (q0.1 _).mono ?_); rintro e u103 ⟨rfl, hb⟩; have HB_u103 := Kp.mk (HBz.1.step hb); have HL_u103 := Kp.mk (HLz.1.step hb); have HE_u103 := Kp.mk (HEz.1.step hb); have HS_u103 := Kp.mk (HSz.1.step hb); have HW_u103 := Kp.mk (HWz.1.step hb); clear hb))
      have HB := HB_u103
      have HL := HL_u103
      have HE := HE_u103
      have HS := HS_u103
      have HW := HW_u103
      have kHL0 := HL.1.c0
      have kHL1 := HL.1.c1
      obtain ⟨kHE0, kHE1, kHE2, kHE3⟩ := HE.1.cs
      obtain ⟨kHS0, kHS1, kHS2, kHS3⟩ := HS.1.cs
      obtain ⟨kHW0, kHW1, kHW2, kHW3⟩ := HW.1.cs
      go_wp2_with fail
      go_roundw
      case rel =>
       first
        | exact ⟨1, by omega, rfl, HL, ⟨_, _, _, _, HE⟩, HS, HW⟩
        | ((repeat apply Exists.intro); exact ⟨⟨1, by omega, rfl, HL, ⟨_, _, _, _, HE⟩, HS, HW⟩, rfl⟩)
      case measure => simp [intOf]
     ·have kHL0 := HL.1.c0
      have kHL1 := HL.1.c1
      obtain ⟨kHE0, kHE1, kHE2, kHE3⟩ := HE.1.cs
      obtain ⟨kHS0, kHS1, kHS2, kHS3⟩ := HS.1.cs
      obtain ⟨kHW0, kHW1, kHW2, kHW3⟩ := HW.1.cs
      go_wp2_with fail
      refine (p1.1 _ HB.1.below).mono ?_
      rintro e u121 ⟨rfl, hbl⟩
      clear kHL0 kHL1 kHE0 kHE1 kHE2 kHE3 kHS0 kHS1 kHS2 kHS3 kHW0 kHW1 kHW2 kHW3
      have HB := Kp.mk (HB.1.step hbl)
      have HL := Kp.mk (HL.1.step hbl)
      have HE := Kp.mk (HE.1.step hbl)
      have HS := Kp.mk (HS.1.step hbl)
      have HW := Kp.mk (HW.1.step hbl)
      clear hbl
      have kHL0 := HL.1.c0
      have kHL1 := HL.1.c1
      obtain ⟨kHE0, kHE1, kHE2, kHE3⟩ := HE.1.cs
      obtain ⟨kHS0, kHS1, kHS2, kHS3⟩ := HS.1.cs
      obtain ⟨kHW0, kHW1, kHW2, kHW3⟩ := HW.1.cs
      go_upto_region 24 with (first
       | refine wpList_store_row' rfl 26 (.tmp 6) (.tmp 162) rfl g6 #[.int .i8 0, .int .i64 0, .int .i8 0, .int .i64 0] rfl rfl 26 #[.int .i8 xf, .int .i64 xd, .int .i8 xg, .int .i64 xe] HE.1.heap infoRn rfl (four_rn _ _ _ _) ?_)
      clear kHL0 kHL1 kHE0 kHE1 kHE2 kHE3 kHS0 kHS1 kHS2 kHS3 kHW0 kHW1 kHW2 kHW3
      have bs0 := HE.1.base
      have HB := Kp.mk (Bl.mk (below_setRow HB.1.below bs0 #[.int .i8 0, .int .i64 0, .int .i8 0, .int .i64 0]))
      have HL := Kp.mk (HL.1.otherRow (fun q => NHEHL.1 q.symm) bs0 #[.int .i8 0, .int .i64 0, .int .i8 0, .int .i64 0])
      have HS := Kp.mk (HS.1.row n1.1 bs0 #[.int .i8 0, .int .i64 0, .int .i8 0, .int .i64 0])
      have HW := Kp.mk (HW.1.row n2.1 bs0 #[.int .i8 0, .int .i64 0, .int .i8 0, .int .i64 0])
      have HE := Kp.mk (HE.1.row 0 0 0 0)
      clear bs0
      generalize u121.setRow g6 #[.int .i8 0, .int .i64 0, .int .i8 0, .int .i64 0] = u122 at *
      have kHL0 := HL.1.c0
      have kHL1 := HL.1.c1
      obtain ⟨kHE0, kHE1, kHE2, kHE3⟩ := HE.1.cs
      obtain ⟨kHS0, kHS1, kHS2, kHS3⟩ := HS.1.cs
      obtain ⟨kHW0, kHW1, kHW2, kHW3⟩ := HW.1.cs
      have hbl := (Below.refl u122.heap.size u122).drew
      have HBz := Kp.mk (HB.1.step hbl)
      have HLz := Kp.mk (HL.1.step hbl)
      have HEz := Kp.mk (HE.1.step hbl)
      have HSz := Kp.mk (HS.1.step hbl)
      have HWz := Kp.mk (HW.1.step hbl)
      have kHL0z := HLz.1.c0
      have kHL1z := HLz.1.c1
      have kHE0z := HEz.1.c0
      have kHE1z := HEz.1.c1
      have kHE2z := HEz.1.c2
      have kHE3z := HEz.1.c3
      have kHS0z := HSz.1.c0
      have kHS1z := HSz.1.c1
      have kHS2z := HSz.1.c2
      have kHS3z := HSz.1.c3
      have kHW0z := HWz.1.c0
      have kHW1z := HWz.1.c1
      have kHW2z := HWz.1.c2
      have kHW3z := HWz.1.c3
      clear hbl
      go_region_held3 (fun w' => w'.cell? ⟨w.heap.size, 0, none⟩ = some (.int .i8 (-1)) ∧ w'.cell? ⟨w.heap.size, 1, none⟩ = some (.int .i64 0) ∧ w'.cell? ⟨g6, 0, none⟩ = some (.int .i8 0) ∧ w'.cell? ⟨g6, 1, none⟩ = some (.int .i64 0) ∧ w'.cell? ⟨g6, 2, none⟩ = some (.int .i8 0) ∧ w'.cell? ⟨g6, 3, none⟩ = some (.int .i64 0) ∧ w'.cell? ⟨gs, 0, none⟩ = some (.string ⟨#[45, 105, 110, 102, 46, 46, 45, 51]⟩) ∧ w'.cell? ⟨gs, 1, none⟩ = some (.string ⟨#[53, 46, 46, 51]⟩) ∧ w'.cell? ⟨gs, 2, none⟩ = some (.string ⟨#[105, 110, 102, 46, 46, 105, 110, 102]⟩) ∧ w'.cell? ⟨gs, 3, none⟩ = some (.string ⟨#[49, 46, 46, 46, 51]⟩) ∧ w'.cell? ⟨gs + 1, 0, none⟩ = some (.int .i64 0) ∧ w'.cell? ⟨gs + 1, 1, none⟩ = some (.int .i64 12) ∧ w'.cell? ⟨gs + 1, 2, none⟩ = some (.int .i64 4) ∧ w'.cell? ⟨gs + 1, 3, none⟩ = some (.int .i64 5)) (first | (with_reducible exact ⟨kHL0, kHL1, kHE0, kHE1, kHE2, kHE3, kHS0, kHS1, kHS2, kHS3, kHW0, kHW1, kHW2, kHW3⟩) | (with_reducible exact ⟨kHL0z, kHL1z, kHE0z, kHE1z, kHE2z, kHE3z, kHS0z, kHS1z, kHS2z, kHS3z, kHW0z, kHW1z, kHW2z, kHW3z⟩) | (with_reducible exact ⟨HL_u123.1.c0, HL_u123.1.c1, HE_u123.1.c0, HE_u123.1.c1, HE_u123.1.c2, HE_u123.1.c3, HS_u123.1.c0, HS_u123.1.c1, HS_u123.1.c2, HS_u123.1.c3, HW_u123.1.c0, HW_u123.1.c1, HW_u123.1.c2, HW_u123.1.c3⟩) | go_keep)
       (first
        | (go_at_call 28; (with_reducible show Calls _ _ _ u122.drew _); (with_reducible refine (q1.1 _).mono ?_); rintro e u123 ⟨rfl, hb⟩; have HB_u123 := Kp.mk (HBz.1.step hb); have HL_u123 := Kp.mk (HLz.1.step hb); have HE_u123 := Kp.mk (HEz.1.step hb); have HS_u123 := Kp.mk (HSz.1.step hb); have HW_u123 := Kp.mk (HWz.1.step hb); clear hb))
      have HB := HB_u123
      have HL := HL_u123
      have HE := HE_u123
      have HS := HS_u123
      have HW := HW_u123
      have kHL0 := HL.1.c0
      have kHL1 := HL.1.c1
      obtain ⟨kHE0, kHE1, kHE2, kHE3⟩ := HE.1.cs
      obtain ⟨kHS0, kHS1, kHS2, kHS3⟩ := HS.1.cs
      obtain ⟨kHW0, kHW1, kHW2, kHW3⟩ := HW.1.cs
      go_wp2_with fail
      go_roundw
      case rel =>
       first
        | exact ⟨2, by omega, rfl, HL, ⟨_, _, _, _, HE⟩, HS, HW⟩
        | ((repeat apply Exists.intro); exact ⟨⟨2, by omega, rfl, HL, ⟨_, _, _, _, HE⟩, HS, HW⟩, rfl⟩)
      case measure => simp [intOf]
     ·have kHL0 := HL.1.c0
      have kHL1 := HL.1.c1
      obtain ⟨kHE0, kHE1, kHE2, kHE3⟩ := HE.1.cs
      obtain ⟨kHS0, kHS1, kHS2, kHS3⟩ := HS.1.cs
      obtain ⟨kHW0, kHW1, kHW2, kHW3⟩ := HW.1.cs
      go_wp2_with fail
      refine (p2.1 _ HB.1.below).mono ?_
      rintro e u141 ⟨rfl, hbl⟩
      clear kHL0 kHL1 kHE0 kHE1 kHE2 kHE3 kHS0 kHS1 kHS2 kHS3 kHW0 kHW1 kHW2 kHW3
      have HB := Kp.mk (HB.1.step hbl)
      have HL := Kp.mk (HL.1.step hbl)
      have HE := Kp.mk (HE.1.step hbl)
      have HS := Kp.mk (HS.1.step hbl)
      have HW := Kp.mk (HW.1.step hbl)
      clear hbl
      have kHL0 := HL.1.c0
      have kHL1 := HL.1.c1
      obtain ⟨kHE0, kHE1, kHE2, kHE3⟩ := HE.1.cs
      obtain ⟨kHS0, kHS1, kHS2, kHS3⟩ := HS.1.cs
      obtain ⟨kHW0, kHW1, kHW2, kHW3⟩ := HW.1.cs
      go_upto_region 24 with (first
       | refine wpList_store_row' rfl 26 (.tmp 6) (.tmp 162) rfl g6 #[.int .i8 0, .int .i64 0, .int .i8 0, .int .i64 0] rfl rfl 26 #[.int .i8 xf, .int .i64 xd, .int .i8 xg, .int .i64 xe] HE.1.heap infoRn rfl (four_rn _ _ _ _) ?_)
      clear kHL0 kHL1 kHE0 kHE1 kHE2 kHE3 kHS0 kHS1 kHS2 kHS3 kHW0 kHW1 kHW2 kHW3
      have bs0 := HE.1.base
      have HB := Kp.mk (Bl.mk (below_setRow HB.1.below bs0 #[.int .i8 0, .int .i64 0, .int .i8 0, .int .i64 0]))
      have HL := Kp.mk (HL.1.otherRow (fun q => NHEHL.1 q.symm) bs0 #[.int .i8 0, .int .i64 0, .int .i8 0, .int .i64 0])
      have HS := Kp.mk (HS.1.row n1.1 bs0 #[.int .i8 0, .int .i64 0, .int .i8 0, .int .i64 0])
      have HW := Kp.mk (HW.1.row n2.1 bs0 #[.int .i8 0, .int .i64 0, .int .i8 0, .int .i64 0])
      have HE := Kp.mk (HE.1.row 0 0 0 0)
      clear bs0
      generalize u141.setRow g6 #[.int .i8 0, .int .i64 0, .int .i8 0, .int .i64 0] = u142 at *
      have kHL0 := HL.1.c0
      have kHL1 := HL.1.c1
      obtain ⟨kHE0, kHE1, kHE2, kHE3⟩ := HE.1.cs
      obtain ⟨kHS0, kHS1, kHS2, kHS3⟩ := HS.1.cs
      obtain ⟨kHW0, kHW1, kHW2, kHW3⟩ := HW.1.cs
      have hbl := (Below.refl u142.heap.size u142).drew
      have HBz := Kp.mk (HB.1.step hbl)
      have HLz := Kp.mk (HL.1.step hbl)
      have HEz := Kp.mk (HE.1.step hbl)
      have HSz := Kp.mk (HS.1.step hbl)
      have HWz := Kp.mk (HW.1.step hbl)
      have kHL0z := HLz.1.c0
      have kHL1z := HLz.1.c1
      have kHE0z := HEz.1.c0
      have kHE1z := HEz.1.c1
      have kHE2z := HEz.1.c2
      have kHE3z := HEz.1.c3
      have kHS0z := HSz.1.c0
      have kHS1z := HSz.1.c1
      have kHS2z := HSz.1.c2
      have kHS3z := HSz.1.c3
      have kHW0z := HWz.1.c0
      have kHW1z := HWz.1.c1
      have kHW2z := HWz.1.c2
      have kHW3z := HWz.1.c3
      clear hbl
      go_region_held3 (fun w' => w'.cell? ⟨w.heap.size, 0, none⟩ = some (.int .i8 (-1)) ∧ w'.cell? ⟨w.heap.size, 1, none⟩ = some (.int .i64 0) ∧ w'.cell? ⟨g6, 0, none⟩ = some (.int .i8 0) ∧ w'.cell? ⟨g6, 1, none⟩ = some (.int .i64 0) ∧ w'.cell? ⟨g6, 2, none⟩ = some (.int .i8 0) ∧ w'.cell? ⟨g6, 3, none⟩ = some (.int .i64 0) ∧ w'.cell? ⟨gs, 0, none⟩ = some (.string ⟨#[45, 105, 110, 102, 46, 46, 45, 51]⟩) ∧ w'.cell? ⟨gs, 1, none⟩ = some (.string ⟨#[53, 46, 46, 51]⟩) ∧ w'.cell? ⟨gs, 2, none⟩ = some (.string ⟨#[105, 110, 102, 46, 46, 105, 110, 102]⟩) ∧ w'.cell? ⟨gs, 3, none⟩ = some (.string ⟨#[49, 46, 46, 46, 51]⟩) ∧ w'.cell? ⟨gs + 1, 0, none⟩ = some (.int .i64 0) ∧ w'.cell? ⟨gs + 1, 1, none⟩ = some (.int .i64 12) ∧ w'.cell? ⟨gs + 1, 2, none⟩ = some (.int .i64 4) ∧ w'.cell? ⟨gs + 1, 3, none⟩ = some (.int .i64 5)) (first | (with_reducible exact ⟨kHL0, kHL1, kHE0, kHE1, kHE2, kHE3, kHS0, kHS1, kHS2, kHS3, kHW0, kHW1, kHW2, kHW3⟩) | (with_reducible exact ⟨kHL0z, kHL1z, kHE0z, kHE1z, kHE2z, kHE3z, kHS0z, kHS1z, kHS2z, kHS3z, kHW0z, kHW1z, kHW2z, kHW3z⟩) | (with_reducible exact ⟨HL_u143.1.c0, HL_u143.1.c1, HE_u143.1.c0, HE_u143.1.c1, HE_u143.1.c2, HE_u143.1.c3, HS_u143.1.c0, HS_u143.1.c1, HS_u143.1.c2, HS_u143.1.c3, HW_u143.1.c0, HW_u143.1.c1, HW_u143.1.c2, HW_u143.1.c3⟩) | go_keep)
       (first
        | (go_at_call 28; (with_reducible show Calls _ _ _ u142.drew _); (with_reducible refine (q2.1 _).mono ?_); rintro e u143 ⟨rfl, hb⟩; have HB_u143 := Kp.mk (HBz.1.step hb); have HL_u143 := Kp.mk (HLz.1.step hb); have HE_u143 := Kp.mk (HEz.1.step hb); have HS_u143 := Kp.mk (HSz.1.step hb); have HW_u143 := Kp.mk (HWz.1.step hb); clear hb))
      have HB := HB_u143
      have HL := HL_u143
      have HE := HE_u143
      have HS := HS_u143
      have HW := HW_u143
      have kHL0 := HL.1.c0
      have kHL1 := HL.1.c1
      obtain ⟨kHE0, kHE1, kHE2, kHE3⟩ := HE.1.cs
      obtain ⟨kHS0, kHS1, kHS2, kHS3⟩ := HS.1.cs
      obtain ⟨kHW0, kHW1, kHW2, kHW3⟩ := HW.1.cs
      go_wp2_with fail
      go_roundw
      case rel =>
       first
        | exact ⟨3, by omega, rfl, HL, ⟨_, _, _, _, HE⟩, HS, HW⟩
        | ((repeat apply Exists.intro); exact ⟨⟨3, by omega, rfl, HL, ⟨_, _, _, _, HE⟩, HS, HW⟩, rfl⟩)
      case measure => simp [intOf]
     ·have kHL0 := HL.1.c0
      have kHL1 := HL.1.c1
      obtain ⟨kHE0, kHE1, kHE2, kHE3⟩ := HE.1.cs
      obtain ⟨kHS0, kHS1, kHS2, kHS3⟩ := HS.1.cs
      obtain ⟨kHW0, kHW1, kHW2, kHW3⟩ := HW.1.cs
      go_wp2_with fail
      refine (p3.1 _ HB.1.below).mono ?_
      rintro e u161 ⟨rfl, hbl⟩
      clear kHL0 kHL1 kHE0 kHE1 kHE2 kHE3 kHS0 kHS1 kHS2 kHS3 kHW0 kHW1 kHW2 kHW3
      have HB := Kp.mk (HB.1.step hbl)
      have HL := Kp.mk (HL.1.step hbl)
      have HE := Kp.mk (HE.1.step hbl)
      have HS := Kp.mk (HS.1.step hbl)
      have HW := Kp.mk (HW.1.step hbl)
      clear hbl
      have kHL0 := HL.1.c0
      have kHL1 := HL.1.c1
      obtain ⟨kHE0, kHE1, kHE2, kHE3⟩ := HE.1.cs
      obtain ⟨kHS0, kHS1, kHS2, kHS3⟩ := HS.1.cs
      obtain ⟨kHW0, kHW1, kHW2, kHW3⟩ := HW.1.cs
      go_upto_region 24 with (first
       | refine wpList_store_row' rfl 26 (.tmp 6) (.tmp 162) rfl g6 #[.int .i8 0, .int .i64 0, .int .i8 0, .int .i64 0] rfl rfl 26 #[.int .i8 xf, .int .i64 xd, .int .i8 xg, .int .i64 xe] HE.1.heap infoRn rfl (four_rn _ _ _ _) ?_)
      clear kHL0 kHL1 kHE0 kHE1 kHE2 kHE3 kHS0 kHS1 kHS2 kHS3 kHW0 kHW1 kHW2 kHW3
      have bs0 := HE.1.base
      have HB := Kp.mk (Bl.mk (below_setRow HB.1.below bs0 #[.int .i8 0, .int .i64 0, .int .i8 0, .int .i64 0]))
      have HL := Kp.mk (HL.1.otherRow (fun q => NHEHL.1 q.symm) bs0 #[.int .i8 0, .int .i64 0, .int .i8 0, .int .i64 0])
      have HS := Kp.mk (HS.1.row n1.1 bs0 #[.int .i8 0, .int .i64 0, .int .i8 0, .int .i64 0])
      have HW := Kp.mk (HW.1.row n2.1 bs0 #[.int .i8 0, .int .i64 0, .int .i8 0, .int .i64 0])
      have HE := Kp.mk (HE.1.row 0 0 0 0)
      clear bs0
      generalize u161.setRow g6 #[.int .i8 0, .int .i64 0, .int .i8 0, .int .i64 0] = u162 at *
      have kHL0 := HL.1.c0
      have kHL1 := HL.1.c1
      obtain ⟨kHE0, kHE1, kHE2, kHE3⟩ := HE.1.cs
      obtain ⟨kHS0, kHS1, kHS2, kHS3⟩ := HS.1.cs
      obtain ⟨kHW0, kHW1, kHW2, kHW3⟩ := HW.1.cs
      have hbl := (Below.refl u162.heap.size u162).drew
      have HBz := Kp.mk (HB.1.step hbl)
      have HLz := Kp.mk (HL.1.step hbl)
      have HEz := Kp.mk (HE.1.step hbl)
      have HSz := Kp.mk (HS.1.step hbl)
      have HWz := Kp.mk (HW.1.step hbl)
      have kHL0z := HLz.1.c0
      have kHL1z := HLz.1.c1
      have kHE0z := HEz.1.c0
      have kHE1z := HEz.1.c1
      have kHE2z := HEz.1.c2
      have kHE3z := HEz.1.c3
      have kHS0z := HSz.1.c0
      have kHS1z := HSz.1.c1
      have kHS2z := HSz.1.c2
      have kHS3z := HSz.1.c3
      have kHW0z := HWz.1.c0
      have kHW1z := HWz.1.c1
      have kHW2z := HWz.1.c2
      have kHW3z := HWz.1.c3
      clear hbl
      go_region_held3 (fun w' => w'.cell? ⟨w.heap.size, 0, none⟩ = some (.int .i8 (-1)) ∧ w'.cell? ⟨w.heap.size, 1, none⟩ = some (.int .i64 0) ∧ w'.cell? ⟨g6, 0, none⟩ = some (.int .i8 0) ∧ w'.cell? ⟨g6, 1, none⟩ = some (.int .i64 0) ∧ w'.cell? ⟨g6, 2, none⟩ = some (.int .i8 0) ∧ w'.cell? ⟨g6, 3, none⟩ = some (.int .i64 0) ∧ w'.cell? ⟨gs, 0, none⟩ = some (.string ⟨#[45, 105, 110, 102, 46, 46, 45, 51]⟩) ∧ w'.cell? ⟨gs, 1, none⟩ = some (.string ⟨#[53, 46, 46, 51]⟩) ∧ w'.cell? ⟨gs, 2, none⟩ = some (.string ⟨#[105, 110, 102, 46, 46, 105, 110, 102]⟩) ∧ w'.cell? ⟨gs, 3, none⟩ = some (.string ⟨#[49, 46, 46, 46, 51]⟩) ∧ w'.cell? ⟨gs + 1, 0, none⟩ = some (.int .i64 0) ∧ w'.cell? ⟨gs + 1, 1, none⟩ = some (.int .i64 12) ∧ w'.cell? ⟨gs + 1, 2, none⟩ = some (.int .i64 4) ∧ w'.cell? ⟨gs + 1, 3, none⟩ = some (.int .i64 5)) (first | (with_reducible exact ⟨kHL0, kHL1, kHE0, kHE1, kHE2, kHE3, kHS0, kHS1, kHS2, kHS3, kHW0, kHW1, kHW2, kHW3⟩) | (with_reducible exact ⟨kHL0z, kHL1z, kHE0z, kHE1z, kHE2z, kHE3z, kHS0z, kHS1z, kHS2z, kHS3z, kHW0z, kHW1z, kHW2z, kHW3z⟩) | (with_reducible exact ⟨HL_u163.1.c0, HL_u163.1.c1, HE_u163.1.c0, HE_u163.1.c1, HE_u163.1.c2, HE_u163.1.c3, HS_u163.1.c0, HS_u163.1.c1, HS_u163.1.c2, HS_u163.1.c3, HW_u163.1.c0, HW_u163.1.c1, HW_u163.1.c2, HW_u163.1.c3⟩) | go_keep)
       (first
        | (go_at_call 28; (with_reducible show Calls _ _ _ u162.drew _); (with_reducible refine (q3.1 _).mono ?_); rintro e u163 ⟨rfl, hb⟩; have HB_u163 := Kp.mk (HBz.1.step hb); have HL_u163 := Kp.mk (HLz.1.step hb); have HE_u163 := Kp.mk (HEz.1.step hb); have HS_u163 := Kp.mk (HSz.1.step hb); have HW_u163 := Kp.mk (HWz.1.step hb); clear hb))
      have HB := HB_u163
      have HL := HL_u163
      have HE := HE_u163
      have HS := HS_u163
      have HW := HW_u163
      have kHL0 := HL.1.c0
      have kHL1 := HL.1.c1
      obtain ⟨kHE0, kHE1, kHE2, kHE3⟩ := HE.1.cs
      obtain ⟨kHS0, kHS1, kHS2, kHS3⟩ := HS.1.cs
      obtain ⟨kHW0, kHW1, kHW2, kHW3⟩ := HW.1.cs
      go_wp2_with fail
      go_roundw
      case rel =>
       first
        | exact ⟨4, by omega, rfl, HL, ⟨_, _, _, _, HE⟩, HS, HW⟩
        | ((repeat apply Exists.intro); exact ⟨⟨4, by omega, rfl, HL, ⟨_, _, _, _, HE⟩, HS, HW⟩, rfl⟩)
      case measure => simp [intOf]
    ·obtain rfl : j = 4 := by omega
     go_wp2_with fail
     go_ret
     exact ⟨rfl, HB.1.below⟩
end Go.Proofs.YteddfolhpoikcaaGreatDoor
