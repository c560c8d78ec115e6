/-
 DERIVED. CONTRACTS of package runs (the developers' functions): each over texts, Parse. Written by mkrnd5.py.
-/
import Derived.Test.YteddfolhpoikcaaGreatDoorPRnDvL
import Derived.Test.YteddfolhpoikcaaGreatDoorPR1a
import Derived.Test.YteddfolhpoikcaaGreatDoorPShelf
namespace Go.Proofs.YteddfolhpoikcaaGreatDoor
open Go.RowKit
set_option maxRecDepth 100000

/-- a pair of texts in a block -/
structure Sb (w : World) (k : Nat) (s0 s1 : ByteArray) (W : World) : Prop where
 below : Below w.heap.size w W
 size : k < W.heap.size
 c0 : W.cell? ⟨k, 0, none⟩ = some (.string s0)
 c1 : W.cell? ⟨k, 1, none⟩ = some (.string s1)
theorem Sb.step {w W W' : World} {k : Nat} {s0 s1 : ByteArray} (h : Sb w k s0 s1 W) (hb : Below W.heap.size W W') : Sb w k s0 s1 W' :=
 ⟨h.below.trans (hb.mono h.below.size), by have := hb.size; have := h.size; omega, by rw [hb.cell (p := ⟨k, 0, none⟩) h.size]; exact h.c0, by rw [hb.cell (p := ⟨k, 1, none⟩) h.size]; exact h.c1⟩
theorem Ob.sg {w W : World} {k : Nat} {t : TypeId} {s0 s1 : ByteArray} (h : Ob w k t #[.string s0, .string s1] W) : Sb w k s0 s1 W := ⟨h.below, h.lt, h.cell rfl, h.cell rfl⟩
set_option maxHeartbeats 8000000 in
theorem eachS_ok {s0 s1 : ByteArray} {x1 y1 x2 y2 : Int} (w : World) (H1 : ∀ u, Below w.heap.size w u → Calls Tryz.prog 65 #[.string s0] u fun e w' => e = .returned (.tuple #[.agg #[.int .i8 x1, .int .i64 y1], .int .i64 0]) ∧ Below u.heap.size u w') (H2 : ∀ u, Below w.heap.size w u → Calls Tryz.prog 65 #[.string s1] u fun e w' => e = .returned (.tuple #[.agg #[.int .i8 x2, .int .i64 y2], .int .i64 0]) ∧ Below u.heap.size u w') :
 Calls Tryz.prog 64 #[.agg #[.string s0, .string s1], .func (.func 65) #[] #[]] w fun z w' => z = .returned (.tuple #[.agg #[.int .i8 x1, .int .i64 y1, .int .i8 x2, .int .i64 y2], .int .i64 0]) ∧ Below w.heap.size w w' := by
 obtain ⟨h1, h2⟩ := ob_two w #[.string s0, .string s1] #[.int .i8 0, .int .i64 0, .int .i8 0, .int .i64 0] 91 71
 have HA := Kp.mk h1.sg
 have HR := Kp.mk h2
 have HB := Kp.mk (Bl.mk h1.below)
 clear h1 h2
 have r1 := Kp.mk H1
 have r2 := Kp.mk H2
 clear H1 H2
 go_enter Tryz.func64, Tryz.ntmps64
 go_upto_region 1 with fail
 generalize (w.alloc (.cells #[.string s0, .string s1] 91)).alloc (.cells #[.int .i8 0, .int .i64 0, .int .i8 0, .int .i64 0] 71) = w0 at *
 have kHA0 := HA.out.c0
 have kHA1 := HA.out.c1
 go_wp2_with fail
 refine (r1.out _ HB.out.below).mono ?_
 rintro e u1 ⟨rfl, hbl⟩
 clear kHA0 kHA1
 have HB := Kp.mk (HB.out.step hbl)
 have HA := Kp.mk (HA.out.step hbl)
 have HR := Kp.mk (HR.out.step hbl)
 clear hbl
 have kHA0 := HA.out.c0
 have kHA1 := HA.out.c1
 go_upto_region 2 with fail
 clear kHA0 kHA1
 have HX := Kp.mk (eb_new x1 y1 24 HB.out.below)
 have hbl := (Below.refl u1.heap.size u1).alloc (Nat.le_refl _) (.cells #[.int .i8 x1, .int .i64 y1] 24)
 have HB := Kp.mk (HB.out.step hbl)
 have HA := Kp.mk (HA.out.step hbl)
 have HR := Kp.mk (HR.out.step hbl)
 clear hbl
 generalize u1.alloc (.cells #[.int .i8 x1, .int .i64 y1] 24) = u2 at *
 generalize u1.heap.size = gx at *
 have kHA0 := HA.out.c0
 have kHA1 := HA.out.c1
 have kHX0 := HX.out.c0
 have kHX1 := HX.out.c1
 go_wp2_with fail
 refine (r2.out _ HB.out.below).mono ?_
 rintro e u3 ⟨rfl, hbl⟩
 clear kHA0 kHA1 kHX0 kHX1
 have HB := Kp.mk (HB.out.step hbl)
 have HA := Kp.mk (HA.out.step hbl)
 have HX := Kp.mk (HX.out.step hbl)
 have HR := Kp.mk (HR.out.step hbl)
 clear hbl
 have kHA0 := HA.out.c0
 have kHA1 := HA.out.c1
 have kHX0 := HX.out.c0
 have kHX1 := HX.out.c1
 go_upto_region 3 with fail
 clear kHA0 kHA1 kHX0 kHX1
 have HY := Kp.mk (eb_new x2 y2 24 HB.out.below)
 have hbl := (Below.refl u3.heap.size u3).alloc (Nat.le_refl _) (.cells #[.int .i8 x2, .int .i64 y2] 24)
 have HB := Kp.mk (HB.out.step hbl)
 have HA := Kp.mk (HA.out.step hbl)
 have HX := Kp.mk (HX.out.step hbl)
 have HR := Kp.mk (HR.out.step hbl)
 clear hbl
 generalize u3.alloc (.cells #[.int .i8 x2, .int .i64 y2] 24) = u4 at *
 generalize u3.heap.size = gy at *
 have kHA0 := HA.out.c0
 have kHA1 := HA.out.c1
 have kHX0 := HX.out.c0
 have kHX1 := HX.out.c1
 have kHY0 := HY.out.c0
 have kHY1 := HY.out.c1
 go_wp2_with (first
  | refine wpList_store_row' rfl 71 (.tmp 4) (.tmp 37) rfl (w.heap.size + 1) #[.int .i8 x1, .int .i64 y1, .int .i8 x2, .int .i64 y2] rfl rfl 71 #[.int .i8 0, .int .i64 0, .int .i8 0, .int .i64 0] HR.out.heap infoPe rfl (four_rn _ _ _ _) ?_)
 refine bodyPost_ret (results_cell_tmp (p := 4) (ty := 71) rfl _ _ (w.heap.size + 1) 71 #[.int .i8 x1, .int .i64 y1, .int .i8 x2, .int .i64 y2] (0, 0) _ rfl (setRow_heap _ _ _ _ _ _ HR.out.heap) Tryz.underlying71 rfl infoPe) rfl ?_
 exact ⟨rfl, below_setRow HR.out.below HR.out.base _⟩
set_option maxHeartbeats 8000000 in
theorem eachS_bad {s0 s1 : ByteArray} {x1 y1 x2 y2 : Int} {c1 c2 c : Int} (hc : (if c1 = 0 ∨ c2 = 5 then c2 else c1) = c) (h0 : ¬ c = 0) (w : World) (H1 : ∀ u, Below w.heap.size w u → Calls Tryz.prog 65 #[.string s0] u fun e w' => e = .returned (.tuple #[.agg #[.int .i8 x1, .int .i64 y1], .int .i64 c1]) ∧ Below u.heap.size u w') (H2 : ∀ u, Below w.heap.size w u → Calls Tryz.prog 65 #[.string s1] u fun e w' => e = .returned (.tuple #[.agg #[.int .i8 x2, .int .i64 y2], .int .i64 c2]) ∧ Below u.heap.size u w') :
 Calls Tryz.prog 64 #[.agg #[.string s0, .string s1], .func (.func 65) #[] #[]] w fun z w' => z = .returned (.tuple #[.agg #[.int .i8 0, .int .i64 0, .int .i8 0, .int .i64 0], .int .i64 c]) ∧ Below w.heap.size w w' := by
 obtain ⟨h1, h2⟩ := ob_two w #[.string s0, .string s1] #[.int .i8 0, .int .i64 0, .int .i8 0, .int .i64 0] 91 71
 have HA := Kp.mk h1.sg
 have HR := Kp.mk h2
 have HB := Kp.mk (Bl.mk h1.below)
 clear h1 h2
 have r1 := Kp.mk H1
 have r2 := Kp.mk H2
 clear H1 H2
 by_cases t1 : c1 = 0
 ·subst t1
  rw [if_pos (.inl rfl)] at hc
  subst hc
  have t3 : (c2 != 0) = true := by rw [bne_iff_ne]; exact h0
  clear h0
  go_enter Tryz.func64, Tryz.ntmps64
  go_upto_region 1 with fail
  generalize (w.alloc (.cells #[.string s0, .string s1] 91)).alloc (.cells #[.int .i8 0, .int .i64 0, .int .i8 0, .int .i64 0] 71) = w0 at *
  have kHA0 := HA.out.c0
  have kHA1 := HA.out.c1
  go_wp2_with fail
  refine (r1.out _ HB.out.below).mono ?_
  rintro e u1 ⟨rfl, hbl⟩
  clear kHA0 kHA1
  have HB := Kp.mk (HB.out.step hbl)
  have HA := Kp.mk (HA.out.step hbl)
  have HR := Kp.mk (HR.out.step hbl)
  clear hbl
  have kHA0 := HA.out.c0
  have kHA1 := HA.out.c1
  go_upto_region 2 with fail
  clear kHA0 kHA1
  have HX := Kp.mk (eb_new x1 y1 24 HB.out.below)
  have hbl := (Below.refl u1.heap.size u1).alloc (Nat.le_refl _) (.cells #[.int .i8 x1, .int .i64 y1] 24)
  have HB := Kp.mk (HB.out.step hbl)
  have HA := Kp.mk (HA.out.step hbl)
  have HR := Kp.mk (HR.out.step hbl)
  clear hbl
  generalize u1.alloc (.cells #[.int .i8 x1, .int .i64 y1] 24) = u2 at *
  generalize u1.heap.size = gx at *
  have kHA0 := HA.out.c0
  have kHA1 := HA.out.c1
  have kHX0 := HX.out.c0
  have kHX1 := HX.out.c1
  go_wp2_with fail
  refine (r2.out _ HB.out.below).mono ?_
  rintro e u3 ⟨rfl, hbl⟩
  clear kHA0 kHA1 kHX0 kHX1
  have HB := Kp.mk (HB.out.step hbl)
  have HA := Kp.mk (HA.out.step hbl)
  have HX := Kp.mk (HX.out.step hbl)
  have HR := Kp.mk (HR.out.step hbl)
  clear hbl
  have kHA0 := HA.out.c0
  have kHA1 := HA.out.c1
  have kHX0 := HX.out.c0
  have kHX1 := HX.out.c1
  go_upto_region 3 with fail
  clear kHA0 kHA1 kHX0 kHX1
  have HY := Kp.mk (eb_new x2 y2 24 HB.out.below)
  have hbl := (Below.refl u3.heap.size u3).alloc (Nat.le_refl _) (.cells #[.int .i8 x2, .int .i64 y2] 24)
  have HB := Kp.mk (HB.out.step hbl)
  have HA := Kp.mk (HA.out.step hbl)
  have HX := Kp.mk (HX.out.step hbl)
  have HR := Kp.mk (HR.out.step hbl)
  clear hbl
  generalize u3.alloc (.cells #[.int .i8 x2, .int .i64 y2] 24) = u4 at *
  generalize u3.heap.size = gy at *
  have kHA0 := HA.out.c0
  have kHA1 := HA.out.c1
  have kHX0 := HX.out.c0
  have kHX1 := HX.out.c1
  have kHY0 := HY.out.c0
  have kHY1 := HY.out.c1
  go_wp2_with (first
   | refine wpList_store_row' rfl 71 (.tmp 4) (.tmp 33) rfl (w.heap.size + 1) #[.int .i8 0, .int .i64 0, .int .i8 0, .int .i64 0] rfl rfl 71 #[.int .i8 0, .int .i64 0, .int .i8 0, .int .i64 0] HR.out.heap infoPe rfl (four_rn _ _ _ _) ?_)
  refine bodyPost_ret (results_cell_tmp (p := 4) (ty := 71) rfl _ _ (w.heap.size + 1) 71 #[.int .i8 0, .int .i64 0, .int .i8 0, .int .i64 0] (0, 0) _ rfl (setRow_heap _ _ _ _ _ _ HR.out.heap) Tryz.underlying71 rfl infoPe) rfl ?_
  exact ⟨rfl, below_setRow HR.out.below HR.out.base _⟩
 ·have t2 : (c1 == 0) = false := by rw [beq_eq_false_iff_ne]; exact t1
  by_cases t4 : c2 = 5
  ·subst t4
   rw [if_pos (.inr rfl)] at hc
   subst hc
   clear h0 t1
   go_enter Tryz.func64, Tryz.ntmps64
   go_upto_region 1 with fail
   generalize (w.alloc (.cells #[.string s0, .string s1] 91)).alloc (.cells #[.int .i8 0, .int .i64 0, .int .i8 0, .int .i64 0] 71) = w0 at *
   have kHA0 := HA.out.c0
   have kHA1 := HA.out.c1
   go_wp2_with fail
   refine (r1.out _ HB.out.below).mono ?_
   rintro e u1 ⟨rfl, hbl⟩
   clear kHA0 kHA1
   have HB := Kp.mk (HB.out.step hbl)
   have HA := Kp.mk (HA.out.step hbl)
   have HR := Kp.mk (HR.out.step hbl)
   clear hbl
   have kHA0 := HA.out.c0
   have kHA1 := HA.out.c1
   go_upto_region 2 with fail
   clear kHA0 kHA1
   have HX := Kp.mk (eb_new x1 y1 24 HB.out.below)
   have hbl := (Below.refl u1.heap.size u1).alloc (Nat.le_refl _) (.cells #[.int .i8 x1, .int .i64 y1] 24)
   have HB := Kp.mk (HB.out.step hbl)
   have HA := Kp.mk (HA.out.step hbl)
   have HR := Kp.mk (HR.out.step hbl)
   clear hbl
   generalize u1.alloc (.cells #[.int .i8 x1, .int .i64 y1] 24) = u2 at *
   generalize u1.heap.size = gx at *
   have kHA0 := HA.out.c0
   have kHA1 := HA.out.c1
   have kHX0 := HX.out.c0
   have kHX1 := HX.out.c1
   go_wp2_with fail
   refine (r2.out _ HB.out.below).mono ?_
   rintro e u3 ⟨rfl, hbl⟩
   clear kHA0 kHA1 kHX0 kHX1
   have HB := Kp.mk (HB.out.step hbl)
   have HA := Kp.mk (HA.out.step hbl)
   have HX := Kp.mk (HX.out.step hbl)
   have HR := Kp.mk (HR.out.step hbl)
   clear hbl
   have kHA0 := HA.out.c0
   have kHA1 := HA.out.c1
   have kHX0 := HX.out.c0
   have kHX1 := HX.out.c1
   go_upto_region 3 with fail
   clear kHA0 kHA1 kHX0 kHX1
   have HY := Kp.mk (eb_new x2 y2 24 HB.out.below)
   have hbl := (Below.refl u3.heap.size u3).alloc (Nat.le_refl _) (.cells #[.int .i8 x2, .int .i64 y2] 24)
   have HB := Kp.mk (HB.out.step hbl)
   have HA := Kp.mk (HA.out.step hbl)
   have HX := Kp.mk (HX.out.step hbl)
   have HR := Kp.mk (HR.out.step hbl)
   clear hbl
   generalize u3.alloc (.cells #[.int .i8 x2, .int .i64 y2] 24) = u4 at *
   generalize u3.heap.size = gy at *
   have kHA0 := HA.out.c0
   have kHA1 := HA.out.c1
   have kHX0 := HX.out.c0
   have kHX1 := HX.out.c1
   have kHY0 := HY.out.c0
   have kHY1 := HY.out.c1
   go_wp2_with (first
    | refine wpList_store_row' rfl 71 (.tmp 4) (.tmp 33) rfl (w.heap.size + 1) #[.int .i8 0, .int .i64 0, .int .i8 0, .int .i64 0] rfl rfl 71 #[.int .i8 0, .int .i64 0, .int .i8 0, .int .i64 0] HR.out.heap infoPe rfl (four_rn _ _ _ _) ?_)
   refine bodyPost_ret (results_cell_tmp (p := 4) (ty := 71) rfl _ _ (w.heap.size + 1) 71 #[.int .i8 0, .int .i64 0, .int .i8 0, .int .i64 0] (0, 0) _ rfl (setRow_heap _ _ _ _ _ _ HR.out.heap) Tryz.underlying71 rfl infoPe) rfl ?_
   exact ⟨rfl, below_setRow HR.out.below HR.out.base _⟩
  ·rw [if_neg (by omega)] at hc
   subst hc
   have t5 : (c2 == 5) = false := by rw [beq_eq_false_iff_ne]; exact t4
   have t3 : (c1 != 0) = true := by rw [bne_iff_ne]; exact h0
   clear h0 t1 t4
   go_enter Tryz.func64, Tryz.ntmps64
   go_upto_region 1 with fail
   generalize (w.alloc (.cells #[.string s0, .string s1] 91)).alloc (.cells #[.int .i8 0, .int .i64 0, .int .i8 0, .int .i64 0] 71) = w0 at *
   have kHA0 := HA.out.c0
   have kHA1 := HA.out.c1
   go_wp2_with fail
   refine (r1.out _ HB.out.below).mono ?_
   rintro e u1 ⟨rfl, hbl⟩
   clear kHA0 kHA1
   have HB := Kp.mk (HB.out.step hbl)
   have HA := Kp.mk (HA.out.step hbl)
   have HR := Kp.mk (HR.out.step hbl)
   clear hbl
   have kHA0 := HA.out.c0
   have kHA1 := HA.out.c1
   go_upto_region 2 with fail
   clear kHA0 kHA1
   have HX := Kp.mk (eb_new x1 y1 24 HB.out.below)
   have hbl := (Below.refl u1.heap.size u1).alloc (Nat.le_refl _) (.cells #[.int .i8 x1, .int .i64 y1] 24)
   have HB := Kp.mk (HB.out.step hbl)
   have HA := Kp.mk (HA.out.step hbl)
   have HR := Kp.mk (HR.out.step hbl)
   clear hbl
   generalize u1.alloc (.cells #[.int .i8 x1, .int .i64 y1] 24) = u2 at *
   generalize u1.heap.size = gx at *
   have kHA0 := HA.out.c0
   have kHA1 := HA.out.c1
   have kHX0 := HX.out.c0
   have kHX1 := HX.out.c1
   go_wp2_with fail
   refine (r2.out _ HB.out.below).mono ?_
   rintro e u3 ⟨rfl, hbl⟩
   clear kHA0 kHA1 kHX0 kHX1
   have HB := Kp.mk (HB.out.step hbl)
   have HA := Kp.mk (HA.out.step hbl)
   have HX := Kp.mk (HX.out.step hbl)
   have HR := Kp.mk (HR.out.step hbl)
   clear hbl
   have kHA0 := HA.out.c0
   have kHA1 := HA.out.c1
   have kHX0 := HX.out.c0
   have kHX1 := HX.out.c1
   go_upto_region 3 with fail
   clear kHA0 kHA1 kHX0 kHX1
   have HY := Kp.mk (eb_new x2 y2 24 HB.out.below)
   have hbl := (Below.refl u3.heap.size u3).alloc (Nat.le_refl _) (.cells #[.int .i8 x2, .int .i64 y2] 24)
   have HB := Kp.mk (HB.out.step hbl)
   have HA := Kp.mk (HA.out.step hbl)
   have HX := Kp.mk (HX.out.step hbl)
   have HR := Kp.mk (HR.out.step hbl)
   clear hbl
   generalize u3.alloc (.cells #[.int .i8 x2, .int .i64 y2] 24) = u4 at *
   generalize u3.heap.size = gy at *
   have kHA0 := HA.out.c0
   have kHA1 := HA.out.c1
   have kHX0 := HX.out.c0
   have kHX1 := HX.out.c1
   have kHY0 := HY.out.c0
   have kHY1 := HY.out.c1
   go_wp2_with (first
    | refine wpList_store_row' rfl 71 (.tmp 4) (.tmp 33) rfl (w.heap.size + 1) #[.int .i8 0, .int .i64 0, .int .i8 0, .int .i64 0] rfl rfl 71 #[.int .i8 0, .int .i64 0, .int .i8 0, .int .i64 0] HR.out.heap infoPe rfl (four_rn _ _ _ _) ?_)
   refine bodyPost_ret (results_cell_tmp (p := 4) (ty := 71) rfl _ _ (w.heap.size + 1) 71 #[.int .i8 0, .int .i64 0, .int .i8 0, .int .i64 0] (0, 0) _ rfl (setRow_heap _ _ _ _ _ _ HR.out.heap) Tryz.underlying71 rfl infoPe) rfl ?_
   exact ⟨rfl, below_setRow HR.out.below HR.out.base _⟩
end Go.Proofs.YteddfolhpoikcaaGreatDoor
