/-
 DERIVED. CONTRACTS of package runs (the developers' functions): each over texts, Parse. Written by mkrnd5.py.
 DERIVED. CONTRACTS of package runs (the developers' functions): Parse. Written by mkrnd5.py.
 DERIVED. CONTRACTS of package runsets (the developers' functions): Parse, the blocks of its loop. Written by mkrsd16.py.
 DERIVED. CONTRACTS of package runsets (the developers' functions): Parse. Written by mkrsd17.py.
-/
import Derived.Test.YtndjcmclmhoigaaGreatDoorPB9
import Derived.Test.YtndjcmclmhoigaaGreatDoorPA9
import Derived.Test.YtndjcmclmhoigaaGreatDoorPShelf
import Derived.Test.YtndjcmclmhoigaaGreatDoorPB6
import Derived.Test.YtndjcmclmhoigaaGreatDoorPC8
import Derived.Test.YtndjcmclmhoigaaGreatDoorPRsDvA
import Derived.Test.YtndjcmclmhoigaaGreatDoorPA7
import Derived.Test.YtndjcmclmhoigaaGreatDoorPB4
import Derived.Maps.AppendAt
import Derived.Test.YtndjcmclmhoigaaGreatDoorPC7
import Derived.Shelf.RegionOpen
namespace Go.Proofs.YtndjcmclmhoigaaGreatDoor
open Go.RowKit
set_option maxRecDepth 100000

/-- a pair of texts in a block -/
structure Sb (w : World) (k : Nat) (s0 s1 : ByteArray) (W : World) : Prop where
 below : Below w.heap.size w W
 size : k < W.heap.size
 c0 : W.cell? ⟨k, 0, none⟩ = some (.string s0)
 c1 : W.cell? ⟨k, 1, none⟩ = some (.string s1)
theorem Sb.step {w W W' : World} {k : Nat} {s0 s1 : ByteArray} (h : Sb w k s0 s1 W) (hb : Below W.heap.size W W') : Sb w k s0 s1 W' :=
 ⟨h.below.trans (hb.mono h.below.size), by have := hb.size; have := h.size; omega, by rw [hb.cell (p := ⟨k, 0, none⟩) h.size]; exact h.c0, by rw [hb.cell (p := ⟨k, 1, none⟩) h.size]; exact h.c1⟩
theorem Ob.sg {w W : World} {k : Nat} {t : TypeId} {s0 s1 : ByteArray} (h : Ob w k t #[.string s0, .string s1] W) : Sb w k s0 s1 W := ⟨h.below, h.lt, h.cell rfl, h.cell rfl⟩
set_option maxHeartbeats 8000000 in
theorem eachS_ok {s0 s1 : ByteArray} {x1 y1 x2 y2 : Int} (w : World) (H1 : ∀ u, Below w.heap.size w u → Calls Tryz.prog 101 #[.string s0] u fun e w' => e = .returned (.tuple #[.agg #[.int .i8 x1, .int .i64 y1], .int .i64 0]) ∧ Below u.heap.size u w') (H2 : ∀ u, Below w.heap.size w u → Calls Tryz.prog 101 #[.string s1] u fun e w' => e = .returned (.tuple #[.agg #[.int .i8 x2, .int .i64 y2], .int .i64 0]) ∧ Below u.heap.size u w') :
 Calls Tryz.prog 100 #[.agg #[.string s0, .string s1], .func (.func 101) #[] #[]] w fun z w' => z = .returned (.tuple #[.agg #[.int .i8 x1, .int .i64 y1, .int .i8 x2, .int .i64 y2], .int .i64 0]) ∧ Below w.heap.size w w' := by
 obtain ⟨h1, h2⟩ := ob_two w #[.string s0, .string s1] #[.int .i8 0, .int .i64 0, .int .i8 0, .int .i64 0] 125 106
 have HA := Kp.mk h1.sg
 have HR := Kp.mk h2
 have HB := Kp.mk (Bl.mk h1.below)
 clear h1 h2
 have r1 := Kp.mk H1
 have r2 := Kp.mk H2
 clear H1 H2
 go_enter Tryz.func100, Tryz.ntmps100
 go_upto_region 1 with fail
 generalize (w.alloc (.cells #[.string s0, .string s1] 125)).alloc (.cells #[.int .i8 0, .int .i64 0, .int .i8 0, .int .i64 0] 106) = w0 at *
 have kHA0 := HA.out.c0
 have kHA1 := HA.out.c1
 go_wp2_with fail
 refine (r1.out _ HB.out.below).mono ?_
 rintro e u1 ⟨rfl, hbl⟩
 clear kHA0 kHA1
 have HB := Kp.mk (HB.out.step hbl)
 have HA := Kp.mk (HA.out.step hbl)
 have HR := Kp.mk (HR.out.step hbl)
 clear hbl
 have kHA0 := HA.out.c0
 have kHA1 := HA.out.c1
 go_upto_region 2 with fail
 clear kHA0 kHA1
 have HX := Kp.mk (eb_new x1 y1 24 HB.out.below)
 have hbl := (Below.refl u1.heap.size u1).alloc (Nat.le_refl _) (.cells #[.int .i8 x1, .int .i64 y1] 24)
 have HB := Kp.mk (HB.out.step hbl)
 have HA := Kp.mk (HA.out.step hbl)
 have HR := Kp.mk (HR.out.step hbl)
 clear hbl
 generalize u1.alloc (.cells #[.int .i8 x1, .int .i64 y1] 24) = u2 at *
 generalize u1.heap.size = gx at *
 have kHA0 := HA.out.c0
 have kHA1 := HA.out.c1
 have kHX0 := HX.out.c0
 have kHX1 := HX.out.c1
 go_wp2_with fail
 refine (r2.out _ HB.out.below).mono ?_
 rintro e u3 ⟨rfl, hbl⟩
 clear kHA0 kHA1 kHX0 kHX1
 have HB := Kp.mk (HB.out.step hbl)
 have HA := Kp.mk (HA.out.step hbl)
 have HX := Kp.mk (HX.out.step hbl)
 have HR := Kp.mk (HR.out.step hbl)
 clear hbl
 have kHA0 := HA.out.c0
 have kHA1 := HA.out.c1
 have kHX0 := HX.out.c0
 have kHX1 := HX.out.c1
 go_upto_region 3 with fail
 clear kHA0 kHA1 kHX0 kHX1
 have HY := Kp.mk (eb_new x2 y2 24 HB.out.below)
 have hbl := (Below.refl u3.heap.size u3).alloc (Nat.le_refl _) (.cells #[.int .i8 x2, .int .i64 y2] 24)
 have HB := Kp.mk (HB.out.step hbl)
 have HA := Kp.mk (HA.out.step hbl)
 have HX := Kp.mk (HX.out.step hbl)
 have HR := Kp.mk (HR.out.step hbl)
 clear hbl
 generalize u3.alloc (.cells #[.int .i8 x2, .int .i64 y2] 24) = u4 at *
 generalize u3.heap.size = gy at *
 have kHA0 := HA.out.c0
 have kHA1 := HA.out.c1
 have kHX0 := HX.out.c0
 have kHX1 := HX.out.c1
 have kHY0 := HY.out.c0
 have kHY1 := HY.out.c1
 go_wp2_with (first
  | refine wpList_store_row' rfl 106 (.tmp 4) (.tmp 37) rfl (w.heap.size + 1) #[.int .i8 x1, .int .i64 y1, .int .i8 x2, .int .i64 y2] rfl rfl 106 #[.int .i8 0, .int .i64 0, .int .i8 0, .int .i64 0] HR.out.heap infoPe rfl (four_rn _ _ _ _) ?_)
 refine bodyPost_ret (results_cell_tmp (p := 4) (ty := 106) rfl _ _ (w.heap.size + 1) 106 #[.int .i8 x1, .int .i64 y1, .int .i8 x2, .int .i64 y2] (0, 0) _ rfl (setRow_heap _ _ _ _ _ _ HR.out.heap) Tryz.underlying106 rfl infoPe) rfl ?_
 exact ⟨rfl, below_setRow HR.out.below HR.out.base _⟩
set_option maxHeartbeats 8000000 in
theorem eachS_bad {s0 s1 : ByteArray} {x1 y1 x2 y2 : Int} {c1 c2 c : Int} (hc : (if c1 = 0 ∨ c2 = 5 then c2 else c1) = c) (h0 : ¬ c = 0) (w : World) (H1 : ∀ u, Below w.heap.size w u → Calls Tryz.prog 101 #[.string s0] u fun e w' => e = .returned (.tuple #[.agg #[.int .i8 x1, .int .i64 y1], .int .i64 c1]) ∧ Below u.heap.size u w') (H2 : ∀ u, Below w.heap.size w u → Calls Tryz.prog 101 #[.string s1] u fun e w' => e = .returned (.tuple #[.agg #[.int .i8 x2, .int .i64 y2], .int .i64 c2]) ∧ Below u.heap.size u w') :
 Calls Tryz.prog 100 #[.agg #[.string s0, .string s1], .func (.func 101) #[] #[]] w fun z w' => z = .returned (.tuple #[.agg #[.int .i8 0, .int .i64 0, .int .i8 0, .int .i64 0], .int .i64 c]) ∧ Below w.heap.size w w' := by
 obtain ⟨h1, h2⟩ := ob_two w #[.string s0, .string s1] #[.int .i8 0, .int .i64 0, .int .i8 0, .int .i64 0] 125 106
 have HA := Kp.mk h1.sg
 have HR := Kp.mk h2
 have HB := Kp.mk (Bl.mk h1.below)
 clear h1 h2
 have r1 := Kp.mk H1
 have r2 := Kp.mk H2
 clear H1 H2
 by_cases t1 : c1 = 0
 ·subst t1
  rw [if_pos (.inl rfl)] at hc
  subst hc
  have t3 : (c2 != 0) = true := by rw [bne_iff_ne]; exact h0
  clear h0
  go_enter Tryz.func100, Tryz.ntmps100
  go_upto_region 1 with fail
  generalize (w.alloc (.cells #[.string s0, .string s1] 125)).alloc (.cells #[.int .i8 0, .int .i64 0, .int .i8 0, .int .i64 0] 106) = w0 at *
  have kHA0 := HA.out.c0
  have kHA1 := HA.out.c1
  go_wp2_with fail
  refine (r1.out _ HB.out.below).mono ?_
  rintro e u1 ⟨rfl, hbl⟩
  clear kHA0 kHA1
  have HB := Kp.mk (HB.out.step hbl)
  have HA := Kp.mk (HA.out.step hbl)
  have HR := Kp.mk (HR.out.step hbl)
  clear hbl
  have kHA0 := HA.out.c0
  have kHA1 := HA.out.c1
  go_upto_region 2 with fail
  clear kHA0 kHA1
  have HX := Kp.mk (eb_new x1 y1 24 HB.out.below)
  have hbl := (Below.refl u1.heap.size u1).alloc (Nat.le_refl _) (.cells #[.int .i8 x1, .int .i64 y1] 24)
  have HB := Kp.mk (HB.out.step hbl)
  have HA := Kp.mk (HA.out.step hbl)
  have HR := Kp.mk (HR.out.step hbl)
  clear hbl
  generalize u1.alloc (.cells #[.int .i8 x1, .int .i64 y1] 24) = u2 at *
  generalize u1.heap.size = gx at *
  have kHA0 := HA.out.c0
  have kHA1 := HA.out.c1
  have kHX0 := HX.out.c0
  have kHX1 := HX.out.c1
  go_wp2_with fail
  refine (r2.out _ HB.out.below).mono ?_
  rintro e u3 ⟨rfl, hbl⟩
  clear kHA0 kHA1 kHX0 kHX1
  have HB := Kp.mk (HB.out.step hbl)
  have HA := Kp.mk (HA.out.step hbl)
  have HX := Kp.mk (HX.out.step hbl)
  have HR := Kp.mk (HR.out.step hbl)
  clear hbl
  have kHA0 := HA.out.c0
  have kHA1 := HA.out.c1
  have kHX0 := HX.out.c0
  have kHX1 := HX.out.c1
  go_upto_region 3 with fail
  clear kHA0 kHA1 kHX0 kHX1
  have HY := Kp.mk (eb_new x2 y2 24 HB.out.below)
  have hbl := (Below.refl u3.heap.size u3).alloc (Nat.le_refl _) (.cells #[.int .i8 x2, .int .i64 y2] 24)
  have HB := Kp.mk (HB.out.step hbl)
  have HA := Kp.mk (HA.out.step hbl)
  have HX := Kp.mk (HX.out.step hbl)
  have HR := Kp.mk (HR.out.step hbl)
  clear hbl
  generalize u3.alloc (.cells #[.int .i8 x2, .int .i64 y2] 24) = u4 at *
  generalize u3.heap.size = gy at *
  have kHA0 := HA.out.c0
  have kHA1 := HA.out.c1
  have kHX0 := HX.out.c0
  have kHX1 := HX.out.c1
  have kHY0 := HY.out.c0
  have kHY1 := HY.out.c1
  go_wp2_with (first
   | refine wpList_store_row' rfl 106 (.tmp 4) (.tmp 33) rfl (w.heap.size + 1) #[.int .i8 0, .int .i64 0, .int .i8 0, .int .i64 0] rfl rfl 106 #[.int .i8 0, .int .i64 0, .int .i8 0, .int .i64 0] HR.out.heap infoPe rfl (four_rn _ _ _ _) ?_)
  refine bodyPost_ret (results_cell_tmp (p := 4) (ty := 106) rfl _ _ (w.heap.size + 1) 106 #[.int .i8 0, .int .i64 0, .int .i8 0, .int .i64 0] (0, 0) _ rfl (setRow_heap _ _ _ _ _ _ HR.out.heap) Tryz.underlying106 rfl infoPe) rfl ?_
  exact ⟨rfl, below_setRow HR.out.below HR.out.base _⟩
 ·have t2 : (c1 == 0) = false := by rw [beq_eq_false_iff_ne]; exact t1
  by_cases t4 : c2 = 5
  ·subst t4
   rw [if_pos (.inr rfl)] at hc
   subst hc
   clear h0 t1
   go_enter Tryz.func100, Tryz.ntmps100
   go_upto_region 1 with fail
   generalize (w.alloc (.cells #[.string s0, .string s1] 125)).alloc (.cells #[.int .i8 0, .int .i64 0, .int .i8 0, .int .i64 0] 106) = w0 at *
   have kHA0 := HA.out.c0
   have kHA1 := HA.out.c1
   go_wp2_with fail
   refine (r1.out _ HB.out.below).mono ?_
   rintro e u1 ⟨rfl, hbl⟩
   clear kHA0 kHA1
   have HB := Kp.mk (HB.out.step hbl)
   have HA := Kp.mk (HA.out.step hbl)
   have HR := Kp.mk (HR.out.step hbl)
   clear hbl
   have kHA0 := HA.out.c0
   have kHA1 := HA.out.c1
   go_upto_region 2 with fail
   clear kHA0 kHA1
   have HX := Kp.mk (eb_new x1 y1 24 HB.out.below)
   have hbl := (Below.refl u1.heap.size u1).alloc (Nat.le_refl _) (.cells #[.int .i8 x1, .int .i64 y1] 24)
   have HB := Kp.mk (HB.out.step hbl)
   have HA := Kp.mk (HA.out.step hbl)
   have HR := Kp.mk (HR.out.step hbl)
   clear hbl
   generalize u1.alloc (.cells #[.int .i8 x1, .int .i64 y1] 24) = u2 at *
   generalize u1.heap.size = gx at *
   have kHA0 := HA.out.c0
   have kHA1 := HA.out.c1
   have kHX0 := HX.out.c0
   have kHX1 := HX.out.c1
   go_wp2_with fail
   refine (r2.out _ HB.out.below).mono ?_
   rintro e u3 ⟨rfl, hbl⟩
   clear kHA0 kHA1 kHX0 kHX1
   have HB := Kp.mk (HB.out.step hbl)
   have HA := Kp.mk (HA.out.step hbl)
   have HX := Kp.mk (HX.out.step hbl)
   have HR := Kp.mk (HR.out.step hbl)
   clear hbl
   have kHA0 := HA.out.c0
   have kHA1 := HA.out.c1
   have kHX0 := HX.out.c0
   have kHX1 := HX.out.c1
   go_upto_region 3 with fail
   clear kHA0 kHA1 kHX0 kHX1
   have HY := Kp.mk (eb_new x2 y2 24 HB.out.below)
   have hbl := (Below.refl u3.heap.size u3).alloc (Nat.le_refl _) (.cells #[.int .i8 x2, .int .i64 y2] 24)
   have HB := Kp.mk (HB.out.step hbl)
   have HA := Kp.mk (HA.out.step hbl)
   have HX := Kp.mk (HX.out.step hbl)
   have HR := Kp.mk (HR.out.step hbl)
   clear hbl
   generalize u3.alloc (.cells #[.int .i8 x2, .int .i64 y2] 24) = u4 at *
   generalize u3.heap.size = gy at *
   have kHA0 := HA.out.c0
   have kHA1 := HA.out.c1
   have kHX0 := HX.out.c0
   have kHX1 := HX.out.c1
   have kHY0 := HY.out.c0
   have kHY1 := HY.out.c1
   go_wp2_with (first
    | refine wpList_store_row' rfl 106 (.tmp 4) (.tmp 33) rfl (w.heap.size + 1) #[.int .i8 0, .int .i64 0, .int .i8 0, .int .i64 0] rfl rfl 106 #[.int .i8 0, .int .i64 0, .int .i8 0, .int .i64 0] HR.out.heap infoPe rfl (four_rn _ _ _ _) ?_)
   refine bodyPost_ret (results_cell_tmp (p := 4) (ty := 106) rfl _ _ (w.heap.size + 1) 106 #[.int .i8 0, .int .i64 0, .int .i8 0, .int .i64 0] (0, 0) _ rfl (setRow_heap _ _ _ _ _ _ HR.out.heap) Tryz.underlying106 rfl infoPe) rfl ?_
   exact ⟨rfl, below_setRow HR.out.below HR.out.base _⟩
  ·rw [if_neg (by omega)] at hc
   subst hc
   have t5 : (c2 == 5) = false := by rw [beq_eq_false_iff_ne]; exact t4
   have t3 : (c1 != 0) = true := by rw [bne_iff_ne]; exact h0
   clear h0 t1 t4
   go_enter Tryz.func100, Tryz.ntmps100
   go_upto_region 1 with fail
   generalize (w.alloc (.cells #[.string s0, .string s1] 125)).alloc (.cells #[.int .i8 0, .int .i64 0, .int .i8 0, .int .i64 0] 106) = w0 at *
   have kHA0 := HA.out.c0
   have kHA1 := HA.out.c1
   go_wp2_with fail
   refine (r1.out _ HB.out.below).mono ?_
   rintro e u1 ⟨rfl, hbl⟩
   clear kHA0 kHA1
   have HB := Kp.mk (HB.out.step hbl)
   have HA := Kp.mk (HA.out.step hbl)
   have HR := Kp.mk (HR.out.step hbl)
   clear hbl
   have kHA0 := HA.out.c0
   have kHA1 := HA.out.c1
   go_upto_region 2 with fail
   clear kHA0 kHA1
   have HX := Kp.mk (eb_new x1 y1 24 HB.out.below)
   have hbl := (Below.refl u1.heap.size u1).alloc (Nat.le_refl _) (.cells #[.int .i8 x1, .int .i64 y1] 24)
   have HB := Kp.mk (HB.out.step hbl)
   have HA := Kp.mk (HA.out.step hbl)
   have HR := Kp.mk (HR.out.step hbl)
   clear hbl
   generalize u1.alloc (.cells #[.int .i8 x1, .int .i64 y1] 24) = u2 at *
   generalize u1.heap.size = gx at *
   have kHA0 := HA.out.c0
   have kHA1 := HA.out.c1
   have kHX0 := HX.out.c0
   have kHX1 := HX.out.c1
   go_wp2_with fail
   refine (r2.out _ HB.out.below).mono ?_
   rintro e u3 ⟨rfl, hbl⟩
   clear kHA0 kHA1 kHX0 kHX1
   have HB := Kp.mk (HB.out.step hbl)
   have HA := Kp.mk (HA.out.step hbl)
   have HX := Kp.mk (HX.out.step hbl)
   have HR := Kp.mk (HR.out.step hbl)
   clear hbl
   have kHA0 := HA.out.c0
   have kHA1 := HA.out.c1
   have kHX0 := HX.out.c0
   have kHX1 := HX.out.c1
   go_upto_region 3 with fail
   clear kHA0 kHA1 kHX0 kHX1
   have HY := Kp.mk (eb_new x2 y2 24 HB.out.below)
   have hbl := (Below.refl u3.heap.size u3).alloc (Nat.le_refl _) (.cells #[.int .i8 x2, .int .i64 y2] 24)
   have HB := Kp.mk (HB.out.step hbl)
   have HA := Kp.mk (HA.out.step hbl)
   have HX := Kp.mk (HX.out.step hbl)
   have HR := Kp.mk (HR.out.step hbl)
   clear hbl
   generalize u3.alloc (.cells #[.int .i8 x2, .int .i64 y2] 24) = u4 at *
   generalize u3.heap.size = gy at *
   have kHA0 := HA.out.c0
   have kHA1 := HA.out.c1
   have kHX0 := HX.out.c0
   have kHX1 := HX.out.c1
   have kHY0 := HY.out.c0
   have kHY1 := HY.out.c1
   go_wp2_with (first
    | refine wpList_store_row' rfl 106 (.tmp 4) (.tmp 33) rfl (w.heap.size + 1) #[.int .i8 0, .int .i64 0, .int .i8 0, .int .i64 0] rfl rfl 106 #[.int .i8 0, .int .i64 0, .int .i8 0, .int .i64 0] HR.out.heap infoPe rfl (four_rn _ _ _ _) ?_)
   refine bodyPost_ret (results_cell_tmp (p := 4) (ty := 106) rfl _ _ (w.heap.size + 1) 106 #[.int .i8 0, .int .i64 0, .int .i8 0, .int .i64 0] (0, 0) _ rfl (setRow_heap _ _ _ _ _ _ HR.out.heap) Tryz.underlying106 rfl infoPe) rfl ?_
   exact ⟨rfl, below_setRow HR.out.below HR.out.base _⟩
end Go.Proofs.YtndjcmclmhoigaaGreatDoor
namespace Go.Proofs.YtndjcmclmhoigaaGreatDoor
open Go.RowKit
set_option maxRecDepth 100000

set_option maxHeartbeats 8000000 in
theorem dParse_no {l : List UInt8} (h : NoCut l) (hl : l.length ≤ 900) (w : World) (hL : LaidRn w) :
 Calls Tryz.prog 39 #[.string (bs l)] w fun z w' => z = .returned (.tuple #[.agg #[.int .i8 0, .int .i64 0, .int .i8 0, .int .i64 0], .int .i64 5]) ∧ Below w.heap.size w w' := by
 have HR := Kp.mk (ob_new (w := w) 26 #[.int .i8 0, .int .i64 0, .int .i8 0, .int .i64 0] (Below.refl w.heap.size w))
 have HB := Kp.mk (Bl.mk HR.out.below)
 have r1 : Kp (∀ u, Below w.heap.size w u → Calls Tryz.prog 99 #[.string (bs l), .string ⟨#[46, 46]⟩] u fun e w' => e = .returned (.tuple #[.string (bs l), .string ⟨#[]⟩, .bool false]) ∧ Below u.heap.size u w') := Kp.mk (fun u hw => dCut_no h hl u (hL.below hw))
 clear h hl hL
 generalize bs l = s at *
 go_enter Tryz.func39, Tryz.ntmps39
 go_upto_region 1 with fail
 generalize w.alloc (.cells #[.int .i8 0, .int .i64 0, .int .i8 0, .int .i64 0] 26) = w0 at *
 go_wp2_with fail
 refine (r1.out _ HB.out.below).mono ?_
 rintro e u1 ⟨rfl, hbl⟩
 have HB := Kp.mk (HB.out.step hbl)
 have HR := Kp.mk (HR.out.step hbl)
 clear hbl
 go_wp2_with (first
  | refine wpList_store_row' rfl 26 (.tmp 2) (.tmp 17) rfl (w.heap.size) #[.int .i8 0, .int .i64 0, .int .i8 0, .int .i64 0] rfl rfl 26 #[.int .i8 0, .int .i64 0, .int .i8 0, .int .i64 0] HR.out.heap infoRn rfl (four_rn _ _ _ _) ?_)
 refine bodyPost_ret (results_cell_tmp (p := 2) (ty := 26) rfl _ _ (w.heap.size) 26 #[.int .i8 0, .int .i64 0, .int .i8 0, .int .i64 0] (0, 0) _ rfl (setRow_heap _ _ _ _ _ _ HR.out.heap) Tryz.underlying26 rfl infoRn) rfl ?_
 exact ⟨rfl, below_setRow HR.out.below HR.out.base _⟩
set_option maxHeartbeats 8000000 in
theorem dParse_err {l : List UInt8} {j : Nat} {c : Int} (h : CutAt l j) (hl : l.length ≤ 900) (h0 : ¬ c = 0) (w : World) (hL : LaidRn w)
 (r2 : Kp (∀ u, Below w.heap.size w u → Calls Tryz.prog 100 #[.agg #[.string (bs (l.take j)), .string (bs (l.drop (j + 2)))], .func (.func 101) #[] #[]] u fun e w' => e = .returned (.tuple #[.agg #[.int .i8 0, .int .i64 0, .int .i8 0, .int .i64 0], .int .i64 c]) ∧ Below u.heap.size u w')) :
 Calls Tryz.prog 39 #[.string (bs l)] w fun z w' => z = .returned (.tuple #[.agg #[.int .i8 0, .int .i64 0, .int .i8 0, .int .i64 0], .int .i64 c]) ∧ Below w.heap.size w w' := by
 have HR := Kp.mk (ob_new (w := w) 26 #[.int .i8 0, .int .i64 0, .int .i8 0, .int .i64 0] (Below.refl w.heap.size w))
 have HB := Kp.mk (Bl.mk HR.out.below)
 have r1 : Kp (∀ u, Below w.heap.size w u → Calls Tryz.prog 99 #[.string (bs l), .string ⟨#[46, 46]⟩] u fun e w' => e = .returned (.tuple #[.string (bs (l.take j)), .string (bs (l.drop (j + 2))), .bool true]) ∧ Below u.heap.size u w') := Kp.mk (fun u hw => dCut_at h hl u (hL.below hw))
 have t1 : (c != 0) = true := by rw [bne_iff_ne]; exact h0
 clear h hl hL h0
 generalize bs (l.take j) = s0 at *
 generalize bs (l.drop (j + 2)) = s1 at *
 generalize bs l = s at *
 go_enter Tryz.func39, Tryz.ntmps39
 go_upto_region 1 with fail
 generalize w.alloc (.cells #[.int .i8 0, .int .i64 0, .int .i8 0, .int .i64 0] 26) = w0 at *
 go_wp2_with fail
 refine (r1.out _ HB.out.below).mono ?_
 rintro e u1 ⟨rfl, hbl⟩
 have HB := Kp.mk (HB.out.step hbl)
 have HR := Kp.mk (HR.out.step hbl)
 clear hbl
 go_wp2_with fail
 refine (r2.out _ HB.out.below).mono ?_
 rintro e u2 ⟨rfl, hbl⟩
 have HB := Kp.mk (HB.out.step hbl)
 have HR := Kp.mk (HR.out.step hbl)
 clear hbl
 go_upto_region 5 with fail
 have HX := Kp.mk (rg_zero 106 HB.out.below)
 have hbl := (Below.refl u2.heap.size u2).alloc (Nat.le_refl _) (.cells #[.int .i8 0, .int .i64 0, .int .i8 0, .int .i64 0] 106)
 have HB := Kp.mk (HB.out.step hbl)
 have HR := Kp.mk (HR.out.step hbl)
 clear hbl
 generalize u2.alloc (.cells #[.int .i8 0, .int .i64 0, .int .i8 0, .int .i64 0] 106) = u3 at *
 generalize u2.heap.size = gx at *
 have kHX0 := HX.out.c0
 have kHX1 := HX.out.c1
 have kHX2 := HX.out.c2
 have kHX3 := HX.out.c3
 go_wp2_with (first
  | refine wpList_store_row' rfl 26 (.tmp 2) (.tmp 27) rfl (w.heap.size) #[.int .i8 0, .int .i64 0, .int .i8 0, .int .i64 0] rfl rfl 26 #[.int .i8 0, .int .i64 0, .int .i8 0, .int .i64 0] HR.out.heap infoRn rfl (four_rn _ _ _ _) ?_)
 refine bodyPost_ret (results_cell_tmp (p := 2) (ty := 26) rfl _ _ (w.heap.size) 26 #[.int .i8 0, .int .i64 0, .int .i8 0, .int .i64 0] (0, 0) _ rfl (setRow_heap _ _ _ _ _ _ HR.out.heap) Tryz.underlying26 rfl infoRn) rfl ?_
 exact ⟨rfl, below_setRow HR.out.below HR.out.base _⟩
set_option maxHeartbeats 8000000 in
theorem dParse_run {l : List UInt8} {j : Nat} {c : Int} {r v : Rn} (h : CutAt l j) (hl : l.length ≤ 900) (w : World) (hL : LaidRn w)
 (r2 : Kp (∀ u, Below w.heap.size w u → Calls Tryz.prog 100 #[.agg #[.string (bs (l.take j)), .string (bs (l.drop (j + 2)))], .func (.func 101) #[] #[]] u fun e w' => e = .returned (.tuple #[.agg #[.int .i8 r.f, .int .i64 r.d, .int .i8 r.g, .int .i64 r.e], .int .i64 0]) ∧ Below u.heap.size u w'))
 (r4 : Kp (∀ u, Below w.heap.size w u → Calls Tryz.prog 91 #[.agg #[.int .i8 r.f, .int .i64 r.d, .int .i8 r.g, .int .i64 r.e]] u fun e w' => e = .returned (.tuple #[.agg #[.int .i8 v.f, .int .i64 v.d, .int .i8 v.g, .int .i64 v.e], .int .i64 c]) ∧ Below u.heap.size u w')) :
 Calls Tryz.prog 39 #[.string (bs l)] w fun z w' => z = .returned (.tuple #[.agg #[.int .i8 v.f, .int .i64 v.d, .int .i8 v.g, .int .i64 v.e], .int .i64 c]) ∧ Below w.heap.size w w' := by
 have HR := Kp.mk (ob_new (w := w) 26 #[.int .i8 0, .int .i64 0, .int .i8 0, .int .i64 0] (Below.refl w.heap.size w))
 have HB := Kp.mk (Bl.mk HR.out.below)
 have r1 : Kp (∀ u, Below w.heap.size w u → Calls Tryz.prog 99 #[.string (bs l), .string ⟨#[46, 46]⟩] u fun e w' => e = .returned (.tuple #[.string (bs (l.take j)), .string (bs (l.drop (j + 2))), .bool true]) ∧ Below u.heap.size u w') := Kp.mk (fun u hw => dCut_at h hl u (hL.below hw))
 have r3 : Kp (∀ u, Below w.heap.size w u → Calls Tryz.prog 90 #[.agg #[.int .i8 r.f, .int .i64 r.d, .int .i8 r.g, .int .i64 r.e]] u fun e w' => e = .returned (.agg #[.int .i8 r.f, .int .i64 r.d, .int .i8 r.g, .int .i64 r.e]) ∧ Below u.heap.size u w') := Kp.mk (fun u _ => dRun_is r u)
 clear h hl hL
 generalize bs (l.take j) = s0 at *
 generalize bs (l.drop (j + 2)) = s1 at *
 generalize bs l = s at *
 go_enter Tryz.func39, Tryz.ntmps39
 go_upto_region 1 with fail
 generalize w.alloc (.cells #[.int .i8 0, .int .i64 0, .int .i8 0, .int .i64 0] 26) = w0 at *
 go_wp2_with fail
 refine (r1.out _ HB.out.below).mono ?_
 rintro e u1 ⟨rfl, hbl⟩
 have HB := Kp.mk (HB.out.step hbl)
 have HR := Kp.mk (HR.out.step hbl)
 clear hbl
 go_wp2_with fail
 refine (r2.out _ HB.out.below).mono ?_
 rintro e u2 ⟨rfl, hbl⟩
 have HB := Kp.mk (HB.out.step hbl)
 have HR := Kp.mk (HR.out.step hbl)
 clear hbl
 go_upto_region 5 with fail
 have HX := Kp.mk (rg_new r 106 HB.out.below)
 have hbl := (Below.refl u2.heap.size u2).alloc (Nat.le_refl _) (.cells #[.int .i8 r.f, .int .i64 r.d, .int .i8 r.g, .int .i64 r.e] 106)
 have HB := Kp.mk (HB.out.step hbl)
 have HR := Kp.mk (HR.out.step hbl)
 clear hbl
 generalize u2.alloc (.cells #[.int .i8 r.f, .int .i64 r.d, .int .i8 r.g, .int .i64 r.e] 106) = u3 at *
 generalize u2.heap.size = gx at *
 have kHX0 := HX.out.c0
 have kHX1 := HX.out.c1
 have kHX2 := HX.out.c2
 have kHX3 := HX.out.c3
 go_wp2_with fail
 refine (r3.out _ HB.out.below).mono ?_
 rintro e u4 ⟨rfl, hbl⟩
 clear kHX0 kHX1 kHX2 kHX3
 have HB := Kp.mk (HB.out.step hbl)
 have HX := Kp.mk (HX.out.step hbl)
 have HR := Kp.mk (HR.out.step hbl)
 clear hbl
 have kHX0 := HX.out.c0
 have kHX1 := HX.out.c1
 have kHX2 := HX.out.c2
 have kHX3 := HX.out.c3
 go_wp2_with fail
 refine (r4.out _ HB.out.below).mono ?_
 rintro e u5 ⟨rfl, hbl⟩
 clear kHX0 kHX1 kHX2 kHX3
 have HB := Kp.mk (HB.out.step hbl)
 have HX := Kp.mk (HX.out.step hbl)
 have HR := Kp.mk (HR.out.step hbl)
 clear hbl
 have kHX0 := HX.out.c0
 have kHX1 := HX.out.c1
 have kHX2 := HX.out.c2
 have kHX3 := HX.out.c3
 go_wp2_with (first
  | refine wpList_store_row' rfl 26 (.tmp 2) (.tmp 32) rfl (w.heap.size) #[.int .i8 v.f, .int .i64 v.d, .int .i8 v.g, .int .i64 v.e] rfl rfl 26 #[.int .i8 0, .int .i64 0, .int .i8 0, .int .i64 0] HR.out.heap infoRn rfl (four_rn _ _ _ _) ?_)
 refine bodyPost_ret (results_cell_tmp (p := 2) (ty := 26) rfl _ _ (w.heap.size) 26 #[.int .i8 v.f, .int .i64 v.d, .int .i8 v.g, .int .i64 v.e] (0, 0) _ rfl (setRow_heap _ _ _ _ _ _ HR.out.heap) Tryz.underlying26 rfl infoRn) rfl ?_
 exact ⟨rfl, below_setRow HR.out.below HR.out.base _⟩
set_option maxHeartbeats 8000000 in
theorem dParse_is {l : List UInt8} {v : Rn} {c : Int} (hl : l.length ≤ 900) (h : ParR l v c) (w : World) (hL : LaidRn w) :
 Calls Tryz.prog 39 #[.string (bs l)] w fun z w' => z = .returned (.tuple #[.agg #[.int .i8 v.f, .int .i64 v.d, .int .i8 v.g, .int .i64 v.e], .int .i64 c]) ∧ Below w.heap.size w w' := by
 rcases h with ⟨h, rfl, rfl⟩ | ⟨j, f, d, p, g, i, q, h, h1, h2, hc⟩
 ·exact dParse_no h hl w hL
 have l1 : (l.take j).length ≤ 1000 := by rw [List.length_take]; omega
 have l2 : (l.drop (j + 2)).length ≤ 1000 := by rw [List.length_drop]; omega
 have e1 := h1.err
 have e2 := h2.err
 have b1 := h1.range
 have b2 := h2.range
 have q1 : ∀ u, Below w.heap.size w u → ∀ v, Below u.heap.size u v → Calls Tryz.prog 101 #[.string (bs (l.take j))] v fun e w' => e = .returned (.tuple #[.agg #[.int .i8 f, .int .i64 d], .int .i64 p]) ∧ Below v.heap.size v w' := fun u hw v hv => dPar_is h1 l1 v (hL.en.below (hw.trans (hv.mono hw.size)))
 have q2 : ∀ u, Below w.heap.size w u → ∀ v, Below u.heap.size u v → Calls Tryz.prog 101 #[.string (bs (l.drop (j + 2)))] v fun e w' => e = .returned (.tuple #[.agg #[.int .i8 g, .int .i64 i], .int .i64 q]) ∧ Below v.heap.size v w' := fun u hw v hv => dPar_is h2 l2 v (hL.en.below (hw.trans (hv.mono hw.size)))
 rcases hc with ⟨h5, rfl, rfl⟩ | ⟨h5, h0, rfl, rfl⟩ | ⟨⟨rfl, rfl⟩, hk, rfl, rfl⟩ | ⟨⟨rfl, rfl⟩, hk, rfl, rfl⟩
 ·exact dParse_err h hl (by decide) w hL (Kp.mk (fun u hw => eachS_bad (by split <;> omega) (by decide) u (q1 u hw) (q2 u hw)))
 ·exact dParse_err h hl (by decide) w hL (Kp.mk (fun u hw => eachS_bad (by split <;> omega) (by decide) u (q1 u hw) (q2 u hw)))
 ·exact dParse_run (r := ⟨f, d, g, i⟩) h hl w hL (Kp.mk (fun u hw => eachS_ok u (q1 u hw) (q2 u hw))) (Kp.mk (fun u hw => dRight_bad ⟨b1.1, b1.2, b2.1, b2.2⟩ rfl hk u (hL.en.below hw)))
 ·exact dParse_run (r := ⟨f, d, g, i⟩) h hl w hL (Kp.mk (fun u hw => eachS_ok u (q1 u hw) (q2 u hw))) (Kp.mk (fun u hw => dRight_ok ⟨b1.1, b1.2, b2.1, b2.2⟩ hk u (hL.en.below hw)))
end Go.Proofs.YtndjcmclmhoigaaGreatDoor
namespace Go.Proofs.YtndjcmclmhoigaaGreatDoor
open Go.RowKit Go.Shelf
set_option maxRecDepth 100000

variable {w W W' : World} {l : List UInt8} {k : Nat} {e e2 : Int} {rs : List Rn} {v v' : Value}
/-- a part of a text, and what it is read as -/
structure Prt where
 p : List UInt8
 r : Rn
 c : Int
 len : p.length ≤ 900
 par : ParR p r c
def xsOf (L : List Prt) : List (Rn × Int) := L.map fun t => (t.r, t.c)
def rsOf (L : List Prt) : List Rn := L.map fun t => t.r
theorem rs_xs (L : List Prt) : runsOf (xsOf L) = rsOf L := by unfold runsOf xsOf rsOf; rw [List.map_map]; rfl
theorem prts : ∀ (ps : List (List UInt8)) (xs : List (Rn × Int)), Rds ps xs → (∀ p, p ∈ ps → p.length ≤ 900) → ∃ L : List Prt, L.map Prt.p = ps ∧ xsOf L = xs
 | [], [], _, _ => ⟨[], rfl, rfl⟩
 | [], x :: xs, h, _ => by have := h.len; cases this
 | p :: ps, [], h, _ => by have := h.len; cases this
 | p :: ps, x :: xs, h, hp => by
  obtain ⟨L, h1, h2⟩ := prts ps xs ⟨by have := h.len; simpa using this, fun k q y h3 h4 => h.read (k + 1) q y (by simpa using h3) (by simpa using h4)⟩ (fun q hq => hp q (List.mem_cons.2 (.inr hq)))
  exact ⟨⟨p, x.1, x.2, hp p (List.mem_cons.2 (.inl rfl)), h.read 0 p x rfl rfl⟩ :: L, by rw [List.map_cons, h1], by show (x.1, x.2) :: xsOf L = _; rw [h2]⟩
theorem rown_mono {base base' size n : Nat} {t : TypeId} {xs : List Value} (h : W.ownsRow base t size v n xs) (hb : base' ≤ base) : W.ownsRow base' t size v n xs := by
 refine ⟨h.1, ?_⟩
 rcases h.2 with hn | ⟨g, cap, cur, hv, hbg, rest⟩
 ·exact .inl hn
 ·exact .inr ⟨g, cap, cur, hv, Nat.le_trans hb hbg, rest⟩
/-- what the loop has made: the two results, the runs, the first error -/
structure PS (w : World) (k : Nat) (e : Int) (rs : List Rn) (v : Value) (W : World) : Prop where
 below : Below w.heap.size w W
 base : w.heap.size = k
 big : k + 7 ≤ W.heap.size
 b0 : Boxed W k 60 (.slice none 0 0)
 b1 : Boxed W (k + 1) 28 (.int .i64 0)
 b2 : Boxed W (k + 1 + 1) 60 v
 b3 : Boxed W (k + 1 + 1 + 1) 28 (.int .i64 e)
 own : W.ownsRow (k + 7) 26 4 v rs.length (vL rs)
theorem PS.step (h : PS w k e rs v W) (hb : Below W.heap.size W W') : PS w k e rs v W' :=
 ⟨h.below.trans (hb.mono h.below.size), h.base, Nat.le_trans h.big hb.size, boxed_same h.b0 (hb.block _ h.b0.lt), boxed_same h.b1 (hb.block _ h.b1.lt), boxed_same h.b2 (hb.block _ h.b2.lt), boxed_same h.b3 (hb.block _ h.b3.lt), rown_below h.own hb⟩
theorem PS.put3 (h : PS w k e rs v W) (e2 : Int) : PS w k e2 rs v (W.setCell ⟨k + 1 + 1 + 1, 0, none⟩ (.int .i64 e2)) :=
 ⟨h.below.setCell (p := ⟨k + 1 + 1 + 1, 0, none⟩) (by have := h.base; show w.heap.size ≤ k + 1 + 1 + 1; omega) _, h.base, by have := h.big; have := (grownBy_setCell' W (k + 1 + 1 + 1) (.int .i64 e2)).size; omega, h.b0.other (by omega) _, h.b1.other (by omega) _, h.b2.other (by omega) _, h.b3.set _, h.own.kept (grownBy_setCell' W _ _) (.inr (fun e => by have := h.own.lt _ e; omega))⟩
theorem PS.ag (h : PS w k e rs v W) : Ag w rs v W := ⟨h.below, rown_mono h.own (by have := h.base; omega)⟩
/-- a step that turns no block of the loop's -/
theorem PS.off {row : Option Nat} (h : PS w k e rs v W) (hg : W.grownBy W' row) (hr : ∀ r, row = some r → (k + 4 ≤ r ∧ r < k + 7) ∨ (k + 7 ≤ r ∧ ∃ o : Obj, W.heap[r]? = some o ∧ o.isCells = false)) : PS w k e rs v W' := by
 have ne : ∀ b, b < k + 4 → some b ≠ row := fun b hb he => by have := hr b he.symm; omega
 refine ⟨h.below.grown hg h.below.size (fun j he => by have := hr j he; have := h.base; omega), h.base, Nat.le_trans h.big hg.size, h.b0.kept hg (ne _ (by omega)), h.b1.kept hg (ne _ (by omega)), h.b2.kept hg (ne _ (by omega)), h.b3.kept hg (ne _ (by omega)), h.own.kept hg ?_⟩
 rcases h.own.2 with ⟨rfl, _⟩ | ⟨g, cap, cur, rfl, hb, hh, _⟩
 ·exact .inl rfl
 ·refine .inr fun he => ?_
  have he : some g = row := he
  rcases hr g he.symm with h1 | ⟨_, o, ho, hc⟩
  ·omega
  ·rw [hh] at ho; cases ho; cases hc
/-- one run more -/
theorem PS.app {r : Rn} {W1 : World} {tmp : Obj} (h : PS w k e rs v W) (ho : W1.ownsRow (k + 7) 26 4 v' (rs.length + 1) (vL rs ++ vL [r])) (hg : (W.alloc tmp).grownBy W1 v.ownBlock) :
 Boxed W1 (k + 1 + 1) 60 v ∧ PS w k e (rs ++ [r]) v' (W1.setCell ⟨k + 1 + 1, 0, none⟩ v') ∧ (∀ b, b < k + 7 → b ≠ k + 1 + 1 → (W1.setCell ⟨k + 1 + 1, 0, none⟩ v').heap[b]? = W.heap[b]?) ∧ KeepsOthers W (W1.setCell ⟨k + 1 + 1, 0, none⟩ v') := by
 have hbig := h.big
 have same : ∀ b, b < k + 7 → W1.heap[b]? = W.heap[b]? := fun b hb =>
  (hg.block b (by rw [World.size_alloc]; omega) (fun e => by have := h.own.lt _ e.symm; omega)).trans (Below.heap_alloc W tmp b (by omega))
 have hb2 : Boxed W1 (k + 1 + 1) 60 v := boxed_same h.b2 (same _ (by omega))
 obtain ⟨_, _, _, hk, _⟩ := h.b2.appended (n₀ := 0) (by decide) (rown_mono h.own (Nat.zero_le _)) (Nat.zero_le _) (Nat.zero_le _) (rown_mono ho (Nat.zero_le _)) hg
 have hsz := hg.size
 rw [World.size_alloc] at hsz
 have hbase := h.base
 have hB1 : Below w.heap.size w W1 := (h.below.alloc h.below.size tmp).grown hg (by rw [World.size_alloc]; have := h.below.size; omega) (fun j e => by have := h.own.lt _ e; omega)
 refine ⟨hb2, ⟨hB1.setCell (p := ⟨k + 1 + 1, 0, none⟩) (by show w.heap.size ≤ k + 1 + 1; omega) _, h.base, by have := (grownBy_setCell' W1 (k + 1 + 1) v').size; omega, (boxed_same h.b0 (same _ (by omega))).other (by omega) _, (boxed_same h.b1 (same _ (by omega))).other (by omega) _, hb2.set _, (boxed_same h.b3 (same _ (by omega))).other (by omega) _, ?_⟩, fun b hb hne => ?_, hk⟩
 ·rw [List.length_append, vL_add]
  exact ho.kept (grownBy_setCell' W1 _ _) (.inr (fun e => by have := ho.lt _ e; omega))
 ·exact (Below.heap_setCell _ _ _ b hne).trans (same b hb)
/-- a part that has no form has come -/
structure PX (w : World) (k : Nat) (pre : List Prt) (W : World) : Prop where
 below : Below w.heap.size w W
 base : w.heap.size = k
 big : k + 7 ≤ W.heap.size
 bad : ∃ x, x ∈ pre ∧ x.c = 5
 b0 : Boxed W k 60 (.slice none 0 0)
 b1 : Boxed W (k + 1) 28 (.int .i64 5)
theorem PX.off {pre : List Prt} {row : Option Nat} (h : PX w k pre W) (hg : W.grownBy W' row) (hr : ∀ r, row = some r → (k + 4 ≤ r ∧ r < k + 7) ∨ (k + 7 ≤ r ∧ ∃ o : Obj, W.heap[r]? = some o ∧ o.isCells = false)) : PX w k pre W' := by
 have ne : ∀ b, b < k + 4 → some b ≠ row := fun b hb he => by have := hr b he.symm; omega
 exact ⟨h.below.grown hg h.below.size (fun j he => by have := hr j he; have := h.base; omega), h.base, Nat.le_trans h.big hg.size, h.bad, h.b0.kept hg (ne _ (by omega)), h.b1.kept hg (ne _ (by omega))⟩
theorem own3_row {r : Nat} (h : Own3 (k + 1 + 1 + 1 + 1) (k + 1 + 1 + 1 + 1 + 1) (k + 1 + 1 + 1 + 1 + 1 + 1) r) : k + 4 ≤ r ∧ r < k + 7 := by
 unfold Own3 at h; omega
theorem keeps_below {B : Nat} (h : Below W.heap.size W W') : KeepsFrom B W W' := ⟨h.size, fun k _ _ hk _ => (h.block k (Array.getElem?_eq_some_iff.1 hk).1).trans hk⟩
theorem xs_add (pre : List Prt) (x : Prt) : xsOf (pre ++ [x]) = xsOf pre ++ [(x.r, x.c)] := by unfold xsOf; rw [List.map_append]; rfl
theorem rs_add (pre : List Prt) (x : Prt) : rsOf (pre ++ [x]) = rsOf pre ++ [x.r] := by unfold rsOf; rw [List.map_append]; rfl
theorem rs_len (pre : List Prt) : (rsOf pre).length = pre.length := by unfold rsOf; rw [List.length_map]
theorem bad_add (pre : List Prt) (x : Prt) : (if firstBad (xsOf pre) = 0 then x.c else firstBad (xsOf pre)) = firstBad (xsOf (pre ++ [x])) := by rw [xs_add, firstBad_add]
end Go.Proofs.YtndjcmclmhoigaaGreatDoor
namespace Go.Proofs.YtndjcmclmhoigaaGreatDoor
open Go.RowKit Go.Shelf
set_option maxRecDepth 100000
attribute [local go_sem] Oper.semAt_some

variable {w W W' : World} {l : List UInt8} {k : Nat}
/-- what the loop starts with -/
def loopW (w : World) (l : List UInt8) : World :=
 ((((((w.alloc (.cells #[.slice none 0 0] 60)).alloc (.cells #[.int .i64 0] 28)).alloc (.cells #[.slice none 0 0] 60)).alloc (.cells #[.int .i64 0] 28)).alloc (.cells #[.string (bs l)] 9)).alloc (.cells #[.string (bs [44])] 9)).alloc (.cells #[.int .i64 0] 3)
structure LW (w : World) (k : Nat) (l : List UInt8) (W : World) : Prop where
 size : W.heap.size = k + 7
 ps : PS w k 0 [] (.slice none 0 0) W
 s4 : Boxed W (k + 1 + 1 + 1 + 1) 9 (.string (bs l))
 s5 : Boxed W (k + 1 + 1 + 1 + 1 + 1) 9 (.string (bs [44]))
 s6 : Boxed W (k + 1 + 1 + 1 + 1 + 1 + 1) 3 (.int .i64 0)
theorem loopW_is (hk : w.heap.size = k) : LW w k l (loopW w l) := by
 subst hk
 have hs : (loopW w l).heap.size = w.heap.size + 7 := by unfold loopW; simp only [World.size_alloc]
 have a0 : Below w.heap.size w (loopW w l) := by
  unfold loopW
  exact (((((((Below.refl _ w).alloc (Nat.le_refl _) _).alloc (by simp only [World.size_alloc]; omega) _).alloc (by simp only [World.size_alloc]; omega) _).alloc (by simp only [World.size_alloc]; omega) _).alloc (by simp only [World.size_alloc]; omega) _).alloc (by simp only [World.size_alloc]; omega) _).alloc (by simp only [World.size_alloc]; omega) _
 have c0 : Boxed (loopW w l) w.heap.size 60 (.slice none 0 0) := ((((((Boxed.new w _ _).alloc _).alloc _).alloc _).alloc _).alloc _).alloc _
 have c1 : Boxed (loopW w l) (w.heap.size + 1) 28 (.int .i64 0) := by
  have h := ((((((Boxed.new (w.alloc (.cells #[.slice none 0 0] 60)) 28 (.int .i64 0)).alloc (.cells #[.slice none 0 0] 60)).alloc (.cells #[.int .i64 0] 28)).alloc (.cells #[.string (bs l)] 9)).alloc (.cells #[.string (bs [44])] 9)).alloc (.cells #[.int .i64 0] 3))
  rw [World.size_alloc] at h
  exact h
 have c2 : Boxed (loopW w l) (w.heap.size + 1 + 1) 60 (.slice none 0 0) := by
  have h := (((((Boxed.new ((w.alloc (.cells #[.slice none 0 0] 60)).alloc (.cells #[.int .i64 0] 28)) 60 (.slice none 0 0)).alloc (.cells #[.int .i64 0] 28)).alloc (.cells #[.string (bs l)] 9)).alloc (.cells #[.string (bs [44])] 9)).alloc (.cells #[.int .i64 0] 3))
  rw [World.size_alloc, World.size_alloc] at h
  exact h
 have c3 : Boxed (loopW w l) (w.heap.size + 1 + 1 + 1) 28 (.int .i64 0) := by
  have h := ((((Boxed.new (((w.alloc (.cells #[.slice none 0 0] 60)).alloc (.cells #[.int .i64 0] 28)).alloc (.cells #[.slice none 0 0] 60)) 28 (.int .i64 0)).alloc (.cells #[.string (bs l)] 9)).alloc (.cells #[.string (bs [44])] 9)).alloc (.cells #[.int .i64 0] 3))
  rw [World.size_alloc, World.size_alloc, World.size_alloc] at h
  exact h
 have c4 : Boxed (loopW w l) (w.heap.size + 1 + 1 + 1 + 1) 9 (.string (bs l)) := by
  have h := (((Boxed.new ((((w.alloc (.cells #[.slice none 0 0] 60)).alloc (.cells #[.int .i64 0] 28)).alloc (.cells #[.slice none 0 0] 60)).alloc (.cells #[.int .i64 0] 28)) 9 (.string (bs l))).alloc (.cells #[.string (bs [44])] 9)).alloc (.cells #[.int .i64 0] 3))
  rw [World.size_alloc, World.size_alloc, World.size_alloc, World.size_alloc] at h
  exact h
 have c5 : Boxed (loopW w l) (w.heap.size + 1 + 1 + 1 + 1 + 1) 9 (.string (bs [44])) := by
  have h := ((Boxed.new (((((w.alloc (.cells #[.slice none 0 0] 60)).alloc (.cells #[.int .i64 0] 28)).alloc (.cells #[.slice none 0 0] 60)).alloc (.cells #[.int .i64 0] 28)).alloc (.cells #[.string (bs l)] 9)) 9 (.string (bs [44]))).alloc (.cells #[.int .i64 0] 3))
  rw [World.size_alloc, World.size_alloc, World.size_alloc, World.size_alloc, World.size_alloc] at h
  exact h
 have c6 : Boxed (loopW w l) (w.heap.size + 1 + 1 + 1 + 1 + 1 + 1) 3 (.int .i64 0) := by
  have h := Boxed.new ((((((w.alloc (.cells #[.slice none 0 0] 60)).alloc (.cells #[.int .i64 0] 28)).alloc (.cells #[.slice none 0 0] 60)).alloc (.cells #[.int .i64 0] 28)).alloc (.cells #[.string (bs l)] 9)).alloc (.cells #[.string (bs [44])] 9)) 3 (.int .i64 0)
  rw [World.size_alloc, World.size_alloc, World.size_alloc, World.size_alloc, World.size_alloc, World.size_alloc] at h
  exact h
 exact ⟨hs, ⟨a0, rfl, by omega, c0, c1, c2, c3, World.ownsRow_nil _ _ _ _⟩, c4, c5, c6⟩
/-- what Parse hands back -/
def ParRes (m : List Rn) (c : Int) (w : World) (x : Ending) (w' : World) : Prop :=
 ((c = 0 → ∃ b, x = .returned (.tuple #[.slice b m.length m.length, .int .i64 0]) ∧ Lr w b m w') ∧ (¬ c = 0 → ∃ b p, x = .returned (.tuple #[.slice b 0 p, .int .i64 c]))) ∧ Below w.heap.size w w'
theorem boxed_put {b D : Nat} {t : TypeId} {v : Value} (o : Obj) (h : Boxed W b t v) (hn : b ≠ D) : Boxed (W.putObj D o) b t v := (World.putObj_heap_other hn).trans h
theorem below_put {D : Nat} {o o' : Obj} (h : Below w.heap.size w W) (hD : w.heap.size ≤ D) (ho : W.heap[D]? = some o) : Below w.heap.size w (W.putObj D o') :=
 h.grown (grownBy_putObj' W D o') (Nat.le_trans hD (Nat.le_of_lt (Array.getElem?_eq_some_iff.1 ho).1)) (fun j e => by cases e; exact hD)
theorem par_results {a : Option Addr} {n p : Nat} {q : Int} {tmps : Array Value} (h0 : Boxed W k 60 (.slice a n p)) (h1 : Boxed W (k + 1) 28 (.int .i64 q)) (t2 : tmps[2]? = some (.pointer (some ⟨k, 0, none⟩))) (t3 : tmps[3]? = some (.pointer (some ⟨k + 1, 0, none⟩))) :
 (results Tryz.f67 tmps).run Tryz.prog W = .ok (.tuple #[.slice a n p, .int .i64 q]) W := by
 have c0 := h0.cell
 have c1 := h1.cell
 simp [results, Tryz.f67, go_sem, c0, c1, t2, t3]
theorem parRet {a : Option Addr} {n p D : Nat} {q c : Int} {m : List Rn} {tmps : Array Value} (h0 : Boxed W k 60 (.slice a n p)) (h1 : Boxed W (k + 1) 28 (.int .i64 q)) (hD : k + 7 ≤ D) (hK : W.heap[D]? = some (.deferred (some []))) (t2 : tmps[2]? = some (.pointer (some ⟨k, 0, none⟩))) (t3 : tmps[3]? = some (.pointer (some ⟨k + 1, 0, none⟩)))
 (hR : ParRes m c w (.returned (.tuple #[.slice a n p, .int .i64 q])) (W.putObj D (.deferred none))) : LeavesInM Fence.wide 6 Tryz.prog Tryz.f67 tmps (ParRes m c w) [{ target := .collected D, args := #[] }] .returning W := by
 refine ⟨by simp, .inl ⟨_, _, rfl, run_takeDeferred hK, ?_⟩⟩
 exact ⟨_, par_results (boxed_put _ h0 (by omega)) (boxed_put _ h1 (by omega)) t2 t3, hR⟩
theorem heap_two {D : Nat} {x y : Value} {o : Obj} (hD : k + 7 ≤ D) (hK : W.heap[D]? = some o) : ((W.setCell ⟨k, 0, none⟩ x).setCell ⟨k + 1, 0, none⟩ y).heap[D]? = some o :=
 (Below.heap_setCell _ _ _ D (by show D ≠ k + 1; omega)).trans ((Below.heap_setCell _ _ _ D (by show D ≠ k; omega)).trans hK)
theorem below_two {x y : Value} (h : Below w.heap.size w W) (hk : w.heap.size = k) : Below w.heap.size w ((W.setCell ⟨k, 0, none⟩ x).setCell ⟨k + 1, 0, none⟩ y) :=
 (h.setCell (p := ⟨k, 0, none⟩) (by show w.heap.size ≤ k; omega) _).setCell (p := ⟨k + 1, 0, none⟩) (by show w.heap.size ≤ k + 1; omega) _
theorem parRet_ok {b : Option Addr} {n cp D : Nat} {c e0 : Int} {m : List Rn} {ys : List Prt} {tmps : Array Value} (hc : c = 0) (hm : m = rsOf ys) (hn : (rsOf ys).length = n) (h : PS w k e0 (rsOf ys) (.slice b n cp) W) (hK : W.heap[D]? = some (.deferred (some []))) (hD : k + 7 ≤ D) (t2 : tmps[2]? = some (.pointer (some ⟨k, 0, none⟩))) (t3 : tmps[3]? = some (.pointer (some ⟨k + 1, 0, none⟩))) :
 LeavesInM Fence.wide 6 Tryz.prog Tryz.f67 tmps (ParRes m c w) [{ target := .collected D, args := #[] }] .returning ((W.setCell ⟨k, 0, none⟩ (.slice b n n)).setCell ⟨k + 1, 0, none⟩ (.int .i64 0)) := by
 subst hc hm hn
 have hb := below_put (o' := .deferred none) (below_two (x := .slice b (rsOf ys).length (rsOf ys).length) (y := .int .i64 0) h.below h.base) (by have := h.base; omega) (heap_two hD hK)
 refine parRet ((h.b0.set _).other (by omega) _) ((h.b1.other (by omega) _).set _) hD (heap_two hD hK) t2 t3 ⟨⟨fun _ => ⟨b, rfl, ?_⟩, fun e => absurd rfl e⟩, hb⟩
 have o1 := h.own.kept (grownBy_setCell' W k (.slice b (rsOf ys).length (rsOf ys).length)) (.inr (fun e => by have := h.own.lt _ e; omega))
 have o2 := o1.kept (grownBy_setCell' _ (k + 1) (.int .i64 0)) (.inr (fun e => by have := o1.lt _ e; omega))
 have o3 := ownsRow_putObj o2 (.deferred none) (heap_two hD hK) rfl
 have hA : Ag w (rsOf ys) _ _ := ⟨hb, rown_mono o3 (by have := h.base; omega)⟩
 obtain ⟨⟨b', p', e', _, hlr⟩, _⟩ := jn_of hA (Below.refl _ _)
 injection e' with e'
 injection e' with e' _ _
 subst e'
 exact hlr
theorem parRet_bad {D : Nat} {c c0 e0 : Int} {m rs : List Rn} {v : Value} {tmps : Array Value} (hc : c = c0) (hz : ¬ c0 = 0) (h : PS w k e0 rs v W) (hK : W.heap[D]? = some (.deferred (some []))) (hD : k + 7 ≤ D) (t2 : tmps[2]? = some (.pointer (some ⟨k, 0, none⟩))) (t3 : tmps[3]? = some (.pointer (some ⟨k + 1, 0, none⟩))) :
 LeavesInM Fence.wide 6 Tryz.prog Tryz.f67 tmps (ParRes m c w) [{ target := .collected D, args := #[] }] .returning ((W.setCell ⟨k, 0, none⟩ (.slice none 0 0)).setCell ⟨k + 1, 0, none⟩ (.int .i64 c0)) := by
 subst hc
 exact parRet ((h.b0.set _).other (by omega) _) ((h.b1.other (by omega) _).set _) hD (heap_two hD hK) t2 t3 ⟨⟨fun e => absurd e hz, fun _ => ⟨none, 0, rfl⟩⟩, below_put (below_two h.below h.base) (by have := h.base; omega) (heap_two hD hK)⟩
theorem parRet_five {D : Nat} {c : Int} {m : List Rn} {pre : List Prt} {tmps : Array Value} (hc : c = 5) (h : PX w k pre W) (hK : W.heap[D]? = some (.deferred (some []))) (hD : k + 7 ≤ D) (t2 : tmps[2]? = some (.pointer (some ⟨k, 0, none⟩))) (t3 : tmps[3]? = some (.pointer (some ⟨k + 1, 0, none⟩))) :
 LeavesInM Fence.wide 6 Tryz.prog Tryz.f67 tmps (ParRes m c w) [{ target := .collected D, args := #[] }] .returning W := by
 subst hc
 exact parRet h.b0 h.b1 hD hK t2 t3 ⟨⟨fun e => absurd e (by decide), fun _ => ⟨none, 0, rfl⟩⟩, below_put h.below (by have := h.base; omega) hK⟩
set_option maxHeartbeats 16000000 in
theorem dParS_some {L : List Prt} {m : List Rn} {c : Int} (hl : l.length ≤ 3000) (h0 : ¬ l = noneL) (hL : L.map Prt.p = cut44 l) (hX : ParX (xsOf L) m c) (hE : LaidRs w) :
 Calls Tryz.prog 67 #[.string (bs l)] w (ParRes m c w) := by
 refine (callsIn_wide (n := 6)).1 ?_
 have t0 : ((bs l).toList == [110, 111, 110, 101]) = false := by rw [bs_toListE, beq_eq_false_iff_ne]; exact h0
 have hsz : (bs l).size = l.length := bs_size l
 have t1 : decide ((1048576 : Int) < (l.length : Int)) = false := decide_eq_false (by omega)
 have t2 : ¬ (1048576 : Int) < (l.length : Int) := by omega
 have HX := Kp.mk hX
 have HLL : Kp (L.length ≤ 3001) := Kp.mk (by
  have := congrArg List.length hL
  rw [List.length_map] at this
  have := cut44_len l
  omega)
 have HLc := Kp.mk hL
 have HE := Kp.mk hE
 have HLen := Kp.mk hl
 clear hX hL hE h0
 obtain ⟨k, hk⟩ : ∃ k, w.heap.size = k := ⟨_, rfl⟩
 have HK := Kp.mk hk
 have HW := Kp.mk (loopW_is (l := l) hk)
 refine callsIn_of_wp_marks Tryz.func67 rfl trivial ?_ rfl
 simp only [Tryz.ntmps67, List.size_toArray, List.length_cons, List.length_nil, Nat.reduceAdd, Nat.reduceSub, Array.replicate_succ, Array.replicate_zero, List.push_toArray, List.append_toArray, List.nil_append, List.cons_append]
 gi_wp2_with (refine ⟨trivial, ?_⟩; gi_at_call 125; refine (callsIn_wide.2 (dSplit_is (bs l) _)).mono ?_; rintro e w' ⟨rfl, rfl⟩; unfold splitV splitW)
 try rw [hk]
 unfold loopW at HW
 generalize ((((((w.alloc (.cells #[.slice none 0 0] 60)).alloc (.cells #[.int .i64 0] 28)).alloc (.cells #[.slice none 0 0] 60)).alloc (.cells #[.int .i64 0] 28)).alloc (.cells #[.string (bs l)] 9)).alloc (.cells #[.string (bs [44])] 9)).alloc (.cells #[.int .i64 0] 3) = W0 at *
 have hs0 := HW.out.size
 clear t0 t1 t2 hsz hk
 refine range_own (n := 6) rfl (by omega) (gf := 168) (lb := #[.pointer (some ⟨k + 1 + 1 + 1 + 1 + 1, 0, none⟩), .pointer (some ⟨k + 1 + 1 + 1 + 1, 0, none⟩), .pointer (some ⟨k + 1 + 1 + 1 + 1 + 1 + 1, 0, none⟩)]) rfl trivial (enters_of Tryz.func168 (by kernel_rfl) rfl)
  (O := Own3 (k + 1 + 1 + 1 + 1) (k + 1 + 1 + 1 + 1 + 1) (k + 1 + 1 + 1 + 1 + 1 + 1)) (fun b hb => by have := own3_row hb; omega) (split_seq Prt.p L HLc.out (by omega) 5 (by omega) (k + 1 + 1 + 1 + 1) W0 HW.out.s4 HW.out.s5 HW.out.s6) (fun _ => rfl)
  (fun pre W => ∃ v, PS w k (firstBad (xsOf pre)) (rsOf pre) v W ∧ ∀ x, x ∈ pre → ¬ x.c = 5)
  (fun pre W => PX w k pre W)
  (fun pre X Y row h hg hr => by
   obtain ⟨v, h1, h2⟩ := h
   exact ⟨v, h1.off hg (fun r e => by rcases hr r e with q | ⟨q, o⟩; exact .inl (own3_row q); exact .inr ⟨by omega, o⟩), h2⟩)
  (fun pre X Y row h hg hr => h.off hg (fun r e => by rcases hr r e with q | ⟨q, o⟩; exact .inl (own3_row q); exact .inr ⟨by omega, o⟩))
  ⟨_, HW.out.ps, fun x hx => by cases hx⟩
  (fun x => { tmps := #[.string (bs l), undef, .pointer (some ⟨k, 0, none⟩), .pointer (some ⟨k + 1, 0, none⟩), .pointer (some ⟨k + 1 + 1, 0, none⟩), .pointer (some ⟨k + 1 + 1 + 1, 0, none⟩), .string (bs x.p), undef, undef, undef, .string (bs l), .int .i64 (l.length : Int), .bool false, .string (bs l), .bool false, .string (bs l), .func (.func 168) #[] #[.pointer (some ⟨k + 1 + 1 + 1 + 1 + 1, 0, none⟩), .pointer (some ⟨k + 1 + 1 + 1 + 1, 0, none⟩), .pointer (some ⟨k + 1 + 1 + 1 + 1 + 1 + 1, 0, none⟩)], .string (bs x.p), undef, undef, undef, undef, undef, undef, undef, undef, undef, undef, undef, undef, undef, undef, undef, undef, undef, undef, undef, undef, undef, undef, undef, undef, undef, undef], defers := [] }) ?assign ?body ?done ?stop
 case assign =>
  intro lp x W K hK
  gi_wp2
  exact hK
 case body =>
  rintro lp pre x W ⟨v, hS, h5⟩ hlen
  have HS := Kp.mk hS
  have H5 := Kp.mk h5
  have HPL : Kp (pre.length ≤ 3001) := Kp.mk (by have := HLL.out; omega)
  have HXA := Kp.mk (bad_add pre x)
  have HRA := Kp.mk (rs_add pre x)
  have HMem : Kp (x ∈ pre ++ [x]) := Kp.mk (by simp)
  have H5A : Kp (¬ x.c = 5 → ∀ y, y ∈ pre ++ [x] → ¬ y.c = 5) := Kp.mk (fun h y hy => by
   rcases List.mem_append.1 hy with hy | hy
   ·exact H5.out y hy
   ·rw [List.mem_singleton.1 hy]; exact h)
  obtain ⟨p, r, c, hlp, hpar⟩ := x
  have rp := Kp.mk (dParse_is hlp hpar W (HE.out.rn.below HS.out.below))
  have h41 : 1 ≤ 6 - 1 - 1 := by omega
  generalize hPX : (pre ++ [({ p := p, r := r, c := c, len := hlp, par := hpar } : Prt)]) = prx at *
  clear hlen hS h5 hPX hs0
  have hbase := HS.out.base
  by_cases h5 : c = 5
  ·subst h5
   gi_wp2_with (refine ⟨trivial, ?_⟩; gi_at_call 39; refine (CallsIn.inRound lp (callsIn_wide.2 rp.out)).mono ?_; rintro e W1 ⟨rfl, hb1⟩; have HS2 := Kp.mk (HS.out.step (hb1.trans (((Below.refl _ W1).alloc (Nat.le_refl _) (.cells #[.int .i8 r.f, .int .i64 r.d, .int .i8 r.g, .int .i64 r.e] 26)).mono hb1.size))); have HKF := Kp.mk ((keeps_below (B := W0.heap.size) hb1).trans ((KeepsOthers.alloc W1 (.cells #[.int .i8 r.f, .int .i64 r.d, .int .i8 r.g, .int .i64 r.e] 26)).from _)); have f0 := HS2.out.b0.cell; have f1 := HS2.out.b0.frozen; have f2 := (HS2.out.b1.other (B' := k) (by omega) (.slice none 0 0)).cell; have f3 := (HS2.out.b1.other (B' := k) (by omega) (.slice none 0 0)).frozen; clear hb1 rp)
   refine ⟨(HKF.out.trans ((KeepsOthers.setCell _ _ _).from _)).trans ((KeepsOthers.setCell _ _ _).from _), ?_⟩
   have big := HS2.out.big
   exact ⟨(HS2.out.below.setCell (p := ⟨k, 0, none⟩) (by show w.heap.size ≤ k; omega) _).setCell (p := ⟨k + 1, 0, none⟩) (by show w.heap.size ≤ k + 1; omega) _, hbase, by
    have g1 := (grownBy_setCell' (W1.alloc (.cells #[.int .i8 r.f, .int .i64 r.d, .int .i8 r.g, .int .i64 r.e] 26)) k (.slice none 0 0)).size
    have g2 := (grownBy_setCell' ((W1.alloc (.cells #[.int .i8 r.f, .int .i64 r.d, .int .i8 r.g, .int .i64 r.e] 26)).setCell ⟨k, 0, none⟩ (.slice none 0 0)) (k + 1) (.int .i64 5)).size
    omega, ⟨_, HMem.out, rfl⟩, (HS2.out.b0.set _).other (by omega) _, (HS2.out.b1.other (by omega) _).set _⟩
  ·have t5 : (c == 5) = false := by rw [beq_eq_false_iff_ne]; exact h5
   have HN5 := Kp.mk h5
   obtain ⟨i0, hi, hz0, hz1, hz2⟩ := infoRn4
   obtain ⟨e0, he0⟩ : ∃ e0, firstBad (xsOf pre) = e0 := ⟨_, rfl⟩
   obtain ⟨e2, he2⟩ : ∃ e2, (if e0 = 0 then c else e0) = e2 := ⟨_, rfl⟩
   rw [he0] at HS HXA
   have HE2 : Kp (e2 = firstBad (xsOf prx)) := Kp.mk (by rw [← he2]; exact HXA.out)
   have ror := Kp.mk (fun g w => orE_is (a := e0) (b := c) (v := e2) he2 g w)
   clear he0 he2 HXA h5
   gi_wp2_with (first
    | (refine ⟨trivial, ?_⟩; gi_at_call 39; refine (CallsIn.inRound lp (callsIn_wide.2 rp.out)).mono ?_; rintro e W1 ⟨rfl, hb1⟩; have HG1 : Kp (k + 7 ≤ W1.heap.size) := Kp.mk (by have := HS.out.big; have := hb1.size; omega); have HS2 := Kp.mk (HS.out.step (hb1.trans (((Below.refl _ W1).alloc (Nat.le_refl _) (.cells #[.int .i8 r.f, .int .i64 r.d, .int .i8 r.g, .int .i64 r.e] 26)).mono hb1.size))); have HR : Kp (Ro w W1.heap.size r (W1.alloc (.cells #[.int .i8 r.f, .int .i64 r.d, .int .i8 r.g, .int .i64 r.e] 26))) := Kp.mk ⟨HS2.out.below, by have := HG1.out; omega, heap_alloc_new W1 _⟩; have HKF := Kp.mk ((keeps_below (B := W0.heap.size) hb1).trans ((KeepsOthers.alloc W1 (.cells #[.int .i8 r.f, .int .i64 r.d, .int .i8 r.g, .int .i64 r.e] 26)).from _)); have HO : Kp (∀ b, b < k + 7 → (W1.alloc (.cells #[.int .i8 r.f, .int .i64 r.d, .int .i8 r.g, .int .i64 r.e] 26)).heap[b]? = W.heap[b]?) := Kp.mk (fun b hb => (Below.heap_alloc W1 (.cells #[.int .i8 r.f, .int .i64 r.d, .int .i8 r.g, .int .i64 r.e] 26) b (by have := HG1.out; omega)).trans (hb1.block b (by have := HS.out.big; omega))); have f0 := HS2.out.b3.cell; clear hb1 rp))
   refine ⟨trivial, ?_⟩
   gi_at_call 126
   refine (CallsIn.inRound lp (callsIn_wide.2 (ror.out _ _ (by simp) (by simp)))).mono ?_
   rintro e W3 ⟨rfl, rfl⟩
   have HS3 := Kp.mk (HS2.out.step ((Below.refl _ (W1.alloc (.cells #[.int .i8 r.f, .int .i64 r.d, .int .i8 r.g, .int .i64 r.e] 26))).alloc (Nat.le_refl _) (.cells #[.int .i64 e0, .int .i64 c] 28)))
   have g0 := HS3.out.b3.cell
   have g1 := HS3.out.b3.frozen
   have HS4 := Kp.mk (HS3.out.put3 e2)
   have g2 := HS4.out.b2.cell
   have HR4 : Kp (Ro w W1.heap.size r ((((W1.alloc (.cells #[.int .i8 r.f, .int .i64 r.d, .int .i8 r.g, .int .i64 r.e] 26)).alloc (.cells #[.int .i64 e0, .int .i64 c] 28))).setCell ⟨k + 1 + 1 + 1, 0, none⟩ (.int .i64 e2))) := Kp.mk ⟨HS4.out.below, HR.out.base, (Below.heap_setCell _ _ _ W1.heap.size (by have := HG1.out; show W1.heap.size ≠ k + 1 + 1 + 1; omega)).trans ((Below.heap_alloc _ _ W1.heap.size (by rw [World.size_alloc]; omega)).trans HR.out.heap)⟩
   obtain ⟨c0, c1, c2, c3⟩ := HR4.out.cs
   have hz4 : ((((W1.alloc (.cells #[.int .i8 r.f, .int .i64 r.d, .int .i8 r.g, .int .i64 r.e] 26)).alloc (.cells #[.int .i64 e0, .int .i64 c] 28))).setCell ⟨k + 1 + 1 + 1, 0, none⟩ (.int .i64 e2)).heap.size = W1.heap.size + 1 + 1 := by simp
   have hnew := lr_news (lr_one (w := w) r HS4.out.below)
   rw [hz4] at hnew
   have HNW := Kp.mk hnew
   clear hnew hz4
   gi_wp2_with (first
    | (gi_at_builtin; refine wpListIn_append_own _ rfl (.tmp 30) (.tmp 32) 60 rfl (k + 7) 26 i0 (.agg #[.int .i8 0, .int .i64 0, .int .i8 0, .int .i64 0]) 4 32 Tryz.underlying60 hi hz0 hz1 hz2 rfl (by decide) v _ _ rfl (HS4.out.own.alloc _) ⟨W1.heap.size + 1 + 1, 0, none⟩ 1 1 (vL [r]) rfl (vL_len _) HNW.out (vL_one _) (by have := rs_len pre; have := HPL.out; unfold maxLen; omega) (by have := rs_len pre; have := HPL.out; omega) (by have := HS4.out.big; rw [World.size_alloc]; omega) ?_; intro v' w1 hown' hgrow _; obtain ⟨g', cap', rfl⟩ := ownsRow_succ hown'; obtain ⟨hv1, hS5, hO5, hk5⟩ := HS4.out.app hown' hgrow; have HS5 := Kp.mk hS5; have HO5 := Kp.mk hO5; have HK5 := Kp.mk hk5; have hc1 := hv1.cell; have hf1 := hv1.frozen; clear hown' hgrow hS5 hO5 hk5 hv1))
   refine ⟨((HKF.out.trans ((KeepsOthers.alloc _ _).from _)).trans ((KeepsOthers.setCell _ _ _).from _)).trans (HK5.out.from _), fun b hb => ?_, _, by rw [← HE2.out, HRA.out]; exact HS5.out, H5A.out HN5.out⟩
   obtain ⟨q1, q2⟩ := own3_row hb
   exact (HO5.out b q2 (by omega)).trans ((Below.heap_setCell _ _ _ b (by show b ≠ k + 1 + 1 + 1; omega)).trans ((Below.heap_alloc _ _ b (by rw [World.size_alloc]; have := HG1.out; omega)).trans (HO.out b q2)))
 case done =>
  intro D ys W hD hys hI hKd
  obtain ⟨v, hS, h5⟩ := hI
  subst hys
  have HS := Kp.mk hS
  have HD : Kp (k + 7 ≤ D) := Kp.mk (by omega)
  have HKD := Kp.mk hKd
  obtain ⟨⟨b, cp, hv, hroom, hlr⟩, _⟩ := jn_of hS.ag (Below.refl _ _)
  injection hv with hv
  subst hv
  have HIn : Kp (∀ r, r ∈ rsOf ys → r.In) := Kp.mk (fun r hr => by
   unfold rsOf at hr
   obtain ⟨t, _, rfl⟩ := List.mem_map.1 hr
   exact t.par.inR)
  have HNo : Kp (∀ x, x ∈ xsOf ys → ¬ x.2 = 5) := Kp.mk (fun x hx => by
   unfold xsOf at hx
   obtain ⟨t, ht, rfl⟩ := List.mem_map.1 hx
   exact h5 t ht)
  obtain ⟨ck, hck⟩ : ∃ ck, chkRs (rsOf ys) = ck := ⟨_, rfl⟩
  obtain ⟨e0, he0⟩ : ∃ e0, firstBad (xsOf ys) = e0 := ⟨_, rfl⟩
  obtain ⟨c0, hc0⟩ : ∃ c0, (if e0 = 0 then ck else e0) = c0 := ⟨_, rfl⟩
  have ror := Kp.mk (fun g w => orE_is (a := e0) (b := ck) (v := c0) hc0 g w)
  have HZ : Kp (c = c0 ∧ (¬ c0 = 0 → m = []) ∧ (c0 = 0 → m = rsOf ys)) := Kp.mk (by
   have hx := HX.out
   rw [← rs_xs] at hck
   by_cases q1 : e0 = 0
   ·rw [if_pos q1] at hc0
    by_cases q2 : ck = 0
    ·obtain ⟨g1, g2⟩ := hx.ok HNo.out (by rw [he0]; exact q1) (by rw [hck]; exact q2)
     exact ⟨by omega, fun h => absurd (by omega) h, fun _ => by rw [g1, rs_xs]⟩
    ·obtain ⟨g1, g2⟩ := hx.chk HNo.out (by rw [he0]; exact q1) (by rw [hck]; exact q2)
     exact ⟨by rw [g2, hck, hc0], fun _ => g1, fun h => absurd (by omega) q2⟩
   ·rw [if_neg q1] at hc0
    obtain ⟨g1, g2⟩ := hx.worst HNo.out (by rw [he0]; exact q1)
    exact ⟨by rw [g2, he0, hc0], fun _ => g1, fun h => absurd (by omega) q1⟩)
  rw [he0] at HS
  have hlm : (rsOf ys).length ≤ maxLen := by have := rs_len ys; have := HLL.out; unfold maxLen; omega
  have rk := Kp.mk (fun (u : World) (h : Below W.heap.size W u) => dChkS_is (cap := cp) HIn.out hck hlm (hlr.step h).now (HE.out.en.below (HS.out.below.trans (h.mono HS.out.below.size))))
  have rcu := Kp.mk (fun w => dCut_is (a := b) hroom w)
  clear hck he0 hc0 hlm hlr hroom h5 hS hKd hD hs0
  obtain ⟨n, hn⟩ : ∃ n, (rsOf ys).length = n := ⟨_, rfl⟩
  have HN := Kp.mk hn
  rw [hn] at HS rk rcu
  clear hn
  have f2 := HS.out.b2.cell
  have f3 := HS.out.b3.cell
  have hbase := HS.out.base
  have hmx : Tryz.prog.follows .mixedOrders = true := by kernel_rfl
  have HSd := Kp.mk (HS.out.step ((Below.refl W.heap.size W).drew))
  have HKd : Kp (W.drew.heap[D]? = some (.deferred (some []))) := HKD
  have HDl : Kp (D < W.drew.heap.size) := Kp.mk (Array.getElem?_eq_some_iff.1 HKd.out).1
  gi_wp2
  refine wpIn_mono (Q := Exit.then (fun a W' => ∃ gx, a = { tmps := #[.string (bs l), undef, .pointer (some ⟨k, 0, none⟩), .pointer (some ⟨k + 1, 0, none⟩), .pointer (some ⟨k + 1 + 1, 0, none⟩), .pointer (some ⟨k + 1 + 1 + 1, 0, none⟩), undef, undef, undef, .int .i64 c0, .string (bs l), .int .i64 (l.length : Int), .bool false, .string (bs l), .bool false, .string (bs l), .func (.func 168) #[] #[.pointer (some ⟨k + 1 + 1 + 1 + 1 + 1, 0, none⟩), .pointer (some ⟨k + 1 + 1 + 1 + 1, 0, none⟩), .pointer (some ⟨k + 1 + 1 + 1 + 1 + 1 + 1, 0, none⟩)], undef, undef, undef, undef, undef, undef, undef, undef, undef, undef, undef, undef, undef, undef, undef, undef, undef, .int .i64 e0, .slice b n cp, .int .i64 ck, .slice (some ⟨gx, 0, none⟩) 2 2, .int .i64 c0, undef, undef, undef, undef, undef], defers := [{ target := .collected D, args := #[] }] } ∧ Kp (PS w k e0 (rsOf ys) (.slice b n cp) W') ∧ Kp (W'.heap[D]? = some (.deferred (some [])))) (fun _ _ _ => False)) ?_ ?_
  ·gi_region_with_o (first
    | (refine ⟨trivial, ?_⟩; gi_at_call 47; refine (callsIn_wide.2 (rk.out _ (Below.refl _ _).drew)).mono ?_; rintro e W1 ⟨rfl, hb1⟩; have HS1 := Kp.mk (HSd.out.step hb1); have HK1 : Kp (W1.heap[D]? = some (.deferred (some []))) := Kp.mk ((hb1.block D HDl.out).trans HKd.out); have f3 := HS1.out.b3.cell; clear hb1)
    | (refine ⟨trivial, ?_⟩; gi_at_call 126; refine (callsIn_wide.2 (ror.out _ _ (by simp) (by simp))).mono ?_; rintro e W3 ⟨rfl, rfl⟩; have HS3 := Kp.mk (HS1.out.step ((Below.refl _ W1).alloc (Nat.le_refl _) (.cells #[.int .i64 e0, .int .i64 ck] 28))); have HK3 : Kp ((W1.alloc (.cells #[.int .i64 e0, .int .i64 ck] 28)).heap[D]? = some (.deferred (some []))) := Kp.mk ((Below.heap_alloc W1 _ D (Array.getElem?_eq_some_iff.1 HK1.out).1).trans HK1.out)))
   all_goals exact ⟨_, rfl, HS3, HK3⟩
  ·intro ex a3 W3 hq
   cases ex with
   | normal =>
    obtain ⟨gx, rfl, HS3, HK3⟩ := hq
    clear f2 f3 HS HSd HKd HDl HKD rk ror
    simp only [Exit.then]
    by_cases hz : c0 = 0
    ·subst hz
     have g2 := HS3.out.b2.cell
     gi_wp2_with (refine ⟨trivial, ?_⟩; gi_at_call 104; refine (callsIn_wide.2 (rcu.out _)).mono ?_; rintro e W4 ⟨rfl, hb4⟩; have HS4 := Kp.mk (HS3.out.step hb4); have HK4 : Kp (W4.heap[D]? = some (.deferred (some []))) := Kp.mk ((hb4.block D (Array.getElem?_eq_some_iff.1 HK3.out).1).trans HK3.out); have g0 := HS4.out.b0.cell; have g1 := HS4.out.b0.frozen; have g3 := (HS4.out.b1.other (B' := k) (by omega) (.slice b n n)).cell; have g4 := (HS4.out.b1.other (B' := k) (by omega) (.slice b n n)).frozen; clear hb4)
     exact parRet_ok HZ.out.1 (HZ.out.2.2 (by first | trivial | rfl)) HN.out HS4.out HK4.out HD.out rfl rfl
    ·have t1 : (c0 != 0) = true := by rw [bne_iff_ne]; exact hz
     have HZN := Kp.mk hz
     clear hz
     have g0 := HS3.out.b0.cell
     have g1 := HS3.out.b0.frozen
     have g2 := (HS3.out.b1.other (B' := k) (by omega) (.slice none 0 0)).cell
     have g3 := (HS3.out.b1.other (B' := k) (by omega) (.slice none 0 0)).frozen
     gi_wp2
     exact parRet_bad HZ.out.1 HZN.out HS3.out HK3.out HD.out rfl rfl
   | ret => exact hq.elim
   | exit id => exact hq.elim
   | goto t => exact hq.elim
   | panic ch => exact hq.elim
   | outgrown => exact hq.elim
 case stop =>
  intro D pre W hD hpre hX5 hKd
  have g0 := hX5.b0.cell
  have g1 := hX5.b1.cell
  have HC5 : Kp (c = 5 ∧ m = []) := Kp.mk (by
   obtain ⟨x, hx, h5⟩ := hX5.bad
   have hx2 : (x.r, x.c) ∈ xsOf L := List.mem_map.2 ⟨x, hpre.subset hx, rfl⟩
   obtain ⟨g1, g2⟩ := HX.out.bad ⟨_, hx2, h5⟩
   exact ⟨g2, g1⟩)
  have HX5 := Kp.mk hX5
  have HKD := Kp.mk hKd
  clear hX5 hKd hpre
  gi_wp2
  exact parRet_five HC5.out.1 HX5.out HKD.out (by omega) rfl rfl
set_option maxHeartbeats 4000000 in
theorem dParS_none (h0 : l = noneL) (w : World) : Calls Tryz.prog 67 #[.string (bs l)] w (ParRes [] 0 w) := by
 subst h0
 obtain ⟨k, hk⟩ : ∃ k, w.heap.size = k := ⟨_, rfl⟩
 have b0 : Boxed ((w.alloc (.cells #[.slice none 0 0] 60)).alloc (.cells #[.int .i64 0] 28)) k 60 (.slice none 0 0) := by rw [← hk]; exact (Boxed.new w _ _).alloc _
 have b1 : Boxed ((w.alloc (.cells #[.slice none 0 0] 60)).alloc (.cells #[.int .i64 0] 28)) (k + 1) 28 (.int .i64 0) := by
  have h := Boxed.new (w.alloc (.cells #[.slice none 0 0] 60)) 28 (.int .i64 0)
  rw [World.size_alloc, hk] at h
  exact h
 have hb : Below w.heap.size w ((w.alloc (.cells #[.slice none 0 0] 60)).alloc (.cells #[.int .i64 0] 28)) := ((Below.refl _ w).alloc (Nat.le_refl _) _).alloc (by simp) _
 have HB0 := Kp.mk b0
 have HB1 := Kp.mk b1
 have HBl := Kp.mk hb
 have HK := Kp.mk hk
 clear b0 b1 hb
 refine (callsIn_wide (n := 6)).1 ?_
 have t0 : ((bs noneL).toList == [110, 111, 110, 101]) = true := by rw [bs_toListE]; rfl
 have hsz : (bs noneL).size = 4 := rfl
 refine callsIn_of_wp_marks Tryz.func67 rfl trivial ?_ rfl
 simp only [Tryz.ntmps67, List.size_toArray, List.length_cons, List.length_nil, Nat.reduceAdd, Nat.reduceSub, Array.replicate_succ, Array.replicate_zero, List.push_toArray, List.append_toArray, List.nil_append, List.cons_append]
 have g0 := HB0.out.cell
 have g1 := HB0.out.frozen
 have g2 := (HB1.out.other (B' := k) (by omega) (.slice none 0 0)).cell
 have g3 := (HB1.out.other (B' := k) (by omega) (.slice none 0 0)).frozen
 gi_wp2
 refine ⟨_, par_results (k := k) HB0.out HB1.out rfl rfl, ⟨⟨fun _ => ⟨none, rfl, ?_⟩, fun e => absurd rfl e⟩, HBl.out⟩⟩
 exact ⟨HBl.out, fun p r hp => by simp at hp⟩
theorem dParS_is {m : List Rn} {c : Int} (hl : l.length ≤ 3000) (hp : ∀ p, p ∈ cut44 l → p.length ≤ 900) (h : ParS l m c) (w : World) (hE : LaidRs w) :
 Calls Tryz.prog 67 #[.string (bs l)] w (ParRes m c w) := by
 by_cases h0 : l = noneL
 ·obtain ⟨rfl, rfl⟩ := h.non h0
  exact dParS_none h0 w
 ·obtain ⟨xs, hx, hX⟩ := h.som h0
  obtain ⟨L, h1, rfl⟩ := prts _ _ hx hp
  exact dParS_some hl h0 h1 hX hE
end Go.Proofs.YtndjcmclmhoigaaGreatDoor
