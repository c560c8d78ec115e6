/-
 DERIVED. CONTRACTS of package runs (the developers' functions): each over ends, Shift. Written by mkrnd5.py.
-/
import Derived.Test.YteddfolhpoikcaaGreatDoorPRnDvL
namespace Go.Proofs.YteddfolhpoikcaaGreatDoor
open Go.RowKit
set_option maxRecDepth 100000

set_option maxHeartbeats 8000000 in
theorem eachE_ok {r : Rn} {p : Nat} {x1 y1 x2 y2 : Int} (w : World) (H1 : ∀ u, Below w.heap.size w u → Calls Tryz.prog 52 #[.agg #[.int .i8 r.f, .int .i64 r.d], .pointer (some ⟨p, 0, none⟩)] u fun e w' => e = .returned (.tuple #[.agg #[.int .i8 x1, .int .i64 y1], .int .i64 0]) ∧ Below u.heap.size u w') (H2 : ∀ u, Below w.heap.size w u → Calls Tryz.prog 52 #[.agg #[.int .i8 r.g, .int .i64 r.e], .pointer (some ⟨p, 0, none⟩)] u fun e w' => e = .returned (.tuple #[.agg #[.int .i8 x2, .int .i64 y2], .int .i64 0]) ∧ Below u.heap.size u w') :
 Calls Tryz.prog 50 #[.agg #[.int .i8 r.f, .int .i64 r.d, .int .i8 r.g, .int .i64 r.e], .func (.func 52) #[] #[.pointer (some ⟨p, 0, none⟩)]] w fun z w' => z = .returned (.tuple #[.agg #[.int .i8 x1, .int .i64 y1, .int .i8 x2, .int .i64 y2], .int .i64 0]) ∧ Below w.heap.size w w' := by
 obtain ⟨h1, h2⟩ := ob_two w #[.int .i8 r.f, .int .i64 r.d, .int .i8 r.g, .int .i64 r.e] #[.int .i8 0, .int .i64 0, .int .i8 0, .int .i64 0] 71 71
 have HA := Kp.mk h1.rg
 have HR := Kp.mk h2
 have HB := Kp.mk (Bl.mk h1.below)
 clear h1 h2
 have r1 := Kp.mk H1
 have r2 := Kp.mk H2
 clear H1 H2
 go_enter Tryz.func50, Tryz.ntmps50
 go_upto_region 1 with fail
 generalize (w.alloc (.cells #[.int .i8 r.f, .int .i64 r.d, .int .i8 r.g, .int .i64 r.e] 71)).alloc (.cells #[.int .i8 0, .int .i64 0, .int .i8 0, .int .i64 0] 71) = w0 at *
 have kHA0 := HA.out.c0
 have kHA1 := HA.out.c1
 have kHA2 := HA.out.c2
 have kHA3 := HA.out.c3
 go_wp2_with fail
 refine (r1.out _ HB.out.below).mono ?_
 rintro e u1 ⟨rfl, hbl⟩
 clear kHA0 kHA1 kHA2 kHA3
 have HB := Kp.mk (HB.out.step hbl)
 have HA := Kp.mk (HA.out.step hbl)
 have HR := Kp.mk (HR.out.step hbl)
 clear hbl
 have kHA0 := HA.out.c0
 have kHA1 := HA.out.c1
 have kHA2 := HA.out.c2
 have kHA3 := HA.out.c3
 go_upto_region 2 with fail
 clear kHA0 kHA1 kHA2 kHA3
 have HX := Kp.mk (eb_new x1 y1 24 HB.out.below)
 have hbl := (Below.refl u1.heap.size u1).alloc (Nat.le_refl _) (.cells #[.int .i8 x1, .int .i64 y1] 24)
 have HB := Kp.mk (HB.out.step hbl)
 have HA := Kp.mk (HA.out.step hbl)
 have HR := Kp.mk (HR.out.step hbl)
 clear hbl
 generalize u1.alloc (.cells #[.int .i8 x1, .int .i64 y1] 24) = u2 at *
 generalize u1.heap.size = gx at *
 have kHA0 := HA.out.c0
 have kHA1 := HA.out.c1
 have kHA2 := HA.out.c2
 have kHA3 := HA.out.c3
 have kHX0 := HX.out.c0
 have kHX1 := HX.out.c1
 go_wp2_with fail
 refine (r2.out _ HB.out.below).mono ?_
 rintro e u3 ⟨rfl, hbl⟩
 clear kHA0 kHA1 kHA2 kHA3 kHX0 kHX1
 have HB := Kp.mk (HB.out.step hbl)
 have HA := Kp.mk (HA.out.step hbl)
 have HX := Kp.mk (HX.out.step hbl)
 have HR := Kp.mk (HR.out.step hbl)
 clear hbl
 have kHA0 := HA.out.c0
 have kHA1 := HA.out.c1
 have kHA2 := HA.out.c2
 have kHA3 := HA.out.c3
 have kHX0 := HX.out.c0
 have kHX1 := HX.out.c1
 go_upto_region 3 with fail
 clear kHA0 kHA1 kHA2 kHA3 kHX0 kHX1
 have HY := Kp.mk (eb_new x2 y2 24 HB.out.below)
 have hbl := (Below.refl u3.heap.size u3).alloc (Nat.le_refl _) (.cells #[.int .i8 x2, .int .i64 y2] 24)
 have HB := Kp.mk (HB.out.step hbl)
 have HA := Kp.mk (HA.out.step hbl)
 have HX := Kp.mk (HX.out.step hbl)
 have HR := Kp.mk (HR.out.step hbl)
 clear hbl
 generalize u3.alloc (.cells #[.int .i8 x2, .int .i64 y2] 24) = u4 at *
 generalize u3.heap.size = gy at *
 have kHA0 := HA.out.c0
 have kHA1 := HA.out.c1
 have kHA2 := HA.out.c2
 have kHA3 := HA.out.c3
 have kHX0 := HX.out.c0
 have kHX1 := HX.out.c1
 have kHY0 := HY.out.c0
 have kHY1 := HY.out.c1
 go_wp2_with (first
  | refine wpList_store_row' rfl 71 (.tmp 4) (.tmp 37) rfl (w.heap.size + 1) #[.int .i8 x1, .int .i64 y1, .int .i8 x2, .int .i64 y2] rfl rfl 71 #[.int .i8 0, .int .i64 0, .int .i8 0, .int .i64 0] HR.out.heap infoPe rfl (four_rn _ _ _ _) ?_)
 refine bodyPost_ret (results_cell_tmp (p := 4) (ty := 71) rfl _ _ (w.heap.size + 1) 71 #[.int .i8 x1, .int .i64 y1, .int .i8 x2, .int .i64 y2] (0, 0) _ rfl (setRow_heap _ _ _ _ _ _ HR.out.heap) Tryz.underlying71 rfl infoPe) rfl ?_
 exact ⟨rfl, below_setRow HR.out.below HR.out.base _⟩
set_option maxHeartbeats 8000000 in
theorem eachE_bad {r : Rn} {p : Nat} {x1 y1 x2 y2 : Int} {c1 c2 c : Int} (hc : (if c1 = 0 ∨ c2 = 5 then c2 else c1) = c) (h0 : ¬ c = 0) (w : World) (H1 : ∀ u, Below w.heap.size w u → Calls Tryz.prog 52 #[.agg #[.int .i8 r.f, .int .i64 r.d], .pointer (some ⟨p, 0, none⟩)] u fun e w' => e = .returned (.tuple #[.agg #[.int .i8 x1, .int .i64 y1], .int .i64 c1]) ∧ Below u.heap.size u w') (H2 : ∀ u, Below w.heap.size w u → Calls Tryz.prog 52 #[.agg #[.int .i8 r.g, .int .i64 r.e], .pointer (some ⟨p, 0, none⟩)] u fun e w' => e = .returned (.tuple #[.agg #[.int .i8 x2, .int .i64 y2], .int .i64 c2]) ∧ Below u.heap.size u w') :
 Calls Tryz.prog 50 #[.agg #[.int .i8 r.f, .int .i64 r.d, .int .i8 r.g, .int .i64 r.e], .func (.func 52) #[] #[.pointer (some ⟨p, 0, none⟩)]] w fun z w' => z = .returned (.tuple #[.agg #[.int .i8 0, .int .i64 0, .int .i8 0, .int .i64 0], .int .i64 c]) ∧ Below w.heap.size w w' := by
 obtain ⟨h1, h2⟩ := ob_two w #[.int .i8 r.f, .int .i64 r.d, .int .i8 r.g, .int .i64 r.e] #[.int .i8 0, .int .i64 0, .int .i8 0, .int .i64 0] 71 71
 have HA := Kp.mk h1.rg
 have HR := Kp.mk h2
 have HB := Kp.mk (Bl.mk h1.below)
 clear h1 h2
 have r1 := Kp.mk H1
 have r2 := Kp.mk H2
 clear H1 H2
 by_cases t1 : c1 = 0
 ·subst t1
  rw [if_pos (.inl rfl)] at hc
  subst hc
  have t3 : (c2 != 0) = true := by rw [bne_iff_ne]; exact h0
  clear h0
  go_enter Tryz.func50, Tryz.ntmps50
  go_upto_region 1 with fail
  generalize (w.alloc (.cells #[.int .i8 r.f, .int .i64 r.d, .int .i8 r.g, .int .i64 r.e] 71)).alloc (.cells #[.int .i8 0, .int .i64 0, .int .i8 0, .int .i64 0] 71) = w0 at *
  have kHA0 := HA.out.c0
  have kHA1 := HA.out.c1
  have kHA2 := HA.out.c2
  have kHA3 := HA.out.c3
  go_wp2_with fail
  refine (r1.out _ HB.out.below).mono ?_
  rintro e u1 ⟨rfl, hbl⟩
  clear kHA0 kHA1 kHA2 kHA3
  have HB := Kp.mk (HB.out.step hbl)
  have HA := Kp.mk (HA.out.step hbl)
  have HR := Kp.mk (HR.out.step hbl)
  clear hbl
  have kHA0 := HA.out.c0
  have kHA1 := HA.out.c1
  have kHA2 := HA.out.c2
  have kHA3 := HA.out.c3
  go_upto_region 2 with fail
  clear kHA0 kHA1 kHA2 kHA3
  have HX := Kp.mk (eb_new x1 y1 24 HB.out.below)
  have hbl := (Below.refl u1.heap.size u1).alloc (Nat.le_refl _) (.cells #[.int .i8 x1, .int .i64 y1] 24)
  have HB := Kp.mk (HB.out.step hbl)
  have HA := Kp.mk (HA.out.step hbl)
  have HR := Kp.mk (HR.out.step hbl)
  clear hbl
  generalize u1.alloc (.cells #[.int .i8 x1, .int .i64 y1] 24) = u2 at *
  generalize u1.heap.size = gx at *
  have kHA0 := HA.out.c0
  have kHA1 := HA.out.c1
  have kHA2 := HA.out.c2
  have kHA3 := HA.out.c3
  have kHX0 := HX.out.c0
  have kHX1 := HX.out.c1
  go_wp2_with fail
  refine (r2.out _ HB.out.below).mono ?_
  rintro e u3 ⟨rfl, hbl⟩
  clear kHA0 kHA1 kHA2 kHA3 kHX0 kHX1
  have HB := Kp.mk (HB.out.step hbl)
  have HA := Kp.mk (HA.out.step hbl)
  have HX := Kp.mk (HX.out.step hbl)
  have HR := Kp.mk (HR.out.step hbl)
  clear hbl
  have kHA0 := HA.out.c0
  have kHA1 := HA.out.c1
  have kHA2 := HA.out.c2
  have kHA3 := HA.out.c3
  have kHX0 := HX.out.c0
  have kHX1 := HX.out.c1
  go_upto_region 3 with fail
  clear kHA0 kHA1 kHA2 kHA3 kHX0 kHX1
  have HY := Kp.mk (eb_new x2 y2 24 HB.out.below)
  have hbl := (Below.refl u3.heap.size u3).alloc (Nat.le_refl _) (.cells #[.int .i8 x2, .int .i64 y2] 24)
  have HB := Kp.mk (HB.out.step hbl)
  have HA := Kp.mk (HA.out.step hbl)
  have HX := Kp.mk (HX.out.step hbl)
  have HR := Kp.mk (HR.out.step hbl)
  clear hbl
  generalize u3.alloc (.cells #[.int .i8 x2, .int .i64 y2] 24) = u4 at *
  generalize u3.heap.size = gy at *
  have kHA0 := HA.out.c0
  have kHA1 := HA.out.c1
  have kHA2 := HA.out.c2
  have kHA3 := HA.out.c3
  have kHX0 := HX.out.c0
  have kHX1 := HX.out.c1
  have kHY0 := HY.out.c0
  have kHY1 := HY.out.c1
  go_wp2_with (first
   | refine wpList_store_row' rfl 71 (.tmp 4) (.tmp 33) rfl (w.heap.size + 1) #[.int .i8 0, .int .i64 0, .int .i8 0, .int .i64 0] rfl rfl 71 #[.int .i8 0, .int .i64 0, .int .i8 0, .int .i64 0] HR.out.heap infoPe rfl (four_rn _ _ _ _) ?_)
  refine bodyPost_ret (results_cell_tmp (p := 4) (ty := 71) rfl _ _ (w.heap.size + 1) 71 #[.int .i8 0, .int .i64 0, .int .i8 0, .int .i64 0] (0, 0) _ rfl (setRow_heap _ _ _ _ _ _ HR.out.heap) Tryz.underlying71 rfl infoPe) rfl ?_
  exact ⟨rfl, below_setRow HR.out.below HR.out.base _⟩
 ·have t2 : (c1 == 0) = false := by rw [beq_eq_false_iff_ne]; exact t1
  by_cases t4 : c2 = 5
  ·subst t4
   rw [if_pos (.inr rfl)] at hc
   subst hc
   clear h0 t1
   go_enter Tryz.func50, Tryz.ntmps50
   go_upto_region 1 with fail
   generalize (w.alloc (.cells #[.int .i8 r.f, .int .i64 r.d, .int .i8 r.g, .int .i64 r.e] 71)).alloc (.cells #[.int .i8 0, .int .i64 0, .int .i8 0, .int .i64 0] 71) = w0 at *
   have kHA0 := HA.out.c0
   have kHA1 := HA.out.c1
   have kHA2 := HA.out.c2
   have kHA3 := HA.out.c3
   go_wp2_with fail
   refine (r1.out _ HB.out.below).mono ?_
   rintro e u1 ⟨rfl, hbl⟩
   clear kHA0 kHA1 kHA2 kHA3
   have HB := Kp.mk (HB.out.step hbl)
   have HA := Kp.mk (HA.out.step hbl)
   have HR := Kp.mk (HR.out.step hbl)
   clear hbl
   have kHA0 := HA.out.c0
   have kHA1 := HA.out.c1
   have kHA2 := HA.out.c2
   have kHA3 := HA.out.c3
   go_upto_region 2 with fail
   clear kHA0 kHA1 kHA2 kHA3
   have HX := Kp.mk (eb_new x1 y1 24 HB.out.below)
   have hbl := (Below.refl u1.heap.size u1).alloc (Nat.le_refl _) (.cells #[.int .i8 x1, .int .i64 y1] 24)
   have HB := Kp.mk (HB.out.step hbl)
   have HA := Kp.mk (HA.out.step hbl)
   have HR := Kp.mk (HR.out.step hbl)
   clear hbl
   generalize u1.alloc (.cells #[.int .i8 x1, .int .i64 y1] 24) = u2 at *
   generalize u1.heap.size = gx at *
   have kHA0 := HA.out.c0
   have kHA1 := HA.out.c1
   have kHA2 := HA.out.c2
   have kHA3 := HA.out.c3
   have kHX0 := HX.out.c0
   have kHX1 := HX.out.c1
   go_wp2_with fail
   refine (r2.out _ HB.out.below).mono ?_
   rintro e u3 ⟨rfl, hbl⟩
   clear kHA0 kHA1 kHA2 kHA3 kHX0 kHX1
   have HB := Kp.mk (HB.out.step hbl)
   have HA := Kp.mk (HA.out.step hbl)
   have HX := Kp.mk (HX.out.step hbl)
   have HR := Kp.mk (HR.out.step hbl)
   clear hbl
   have kHA0 := HA.out.c0
   have kHA1 := HA.out.c1
   have kHA2 := HA.out.c2
   have kHA3 := HA.out.c3
   have kHX0 := HX.out.c0
   have kHX1 := HX.out.c1
   go_upto_region 3 with fail
   clear kHA0 kHA1 kHA2 kHA3 kHX0 kHX1
   have HY := Kp.mk (eb_new x2 y2 24 HB.out.below)
   have hbl := (Below.refl u3.heap.size u3).alloc (Nat.le_refl _) (.cells #[.int .i8 x2, .int .i64 y2] 24)
   have HB := Kp.mk (HB.out.step hbl)
   have HA := Kp.mk (HA.out.step hbl)
   have HX := Kp.mk (HX.out.step hbl)
   have HR := Kp.mk (HR.out.step hbl)
   clear hbl
   generalize u3.alloc (.cells #[.int .i8 x2, .int .i64 y2] 24) = u4 at *
   generalize u3.heap.size = gy at *
   have kHA0 := HA.out.c0
   have kHA1 := HA.out.c1
   have kHA2 := HA.out.c2
   have kHA3 := HA.out.c3
   have kHX0 := HX.out.c0
   have kHX1 := HX.out.c1
   have kHY0 := HY.out.c0
   have kHY1 := HY.out.c1
   go_wp2_with (first
    | refine wpList_store_row' rfl 71 (.tmp 4) (.tmp 33) rfl (w.heap.size + 1) #[.int .i8 0, .int .i64 0, .int .i8 0, .int .i64 0] rfl rfl 71 #[.int .i8 0, .int .i64 0, .int .i8 0, .int .i64 0] HR.out.heap infoPe rfl (four_rn _ _ _ _) ?_)
   refine bodyPost_ret (results_cell_tmp (p := 4) (ty := 71) rfl _ _ (w.heap.size + 1) 71 #[.int .i8 0, .int .i64 0, .int .i8 0, .int .i64 0] (0, 0) _ rfl (setRow_heap _ _ _ _ _ _ HR.out.heap) Tryz.underlying71 rfl infoPe) rfl ?_
   exact ⟨rfl, below_setRow HR.out.below HR.out.base _⟩
  ·rw [if_neg (by omega)] at hc
   subst hc
   have t5 : (c2 == 5) = false := by rw [beq_eq_false_iff_ne]; exact t4
   have t3 : (c1 != 0) = true := by rw [bne_iff_ne]; exact h0
   clear h0 t1 t4
   go_enter Tryz.func50, Tryz.ntmps50
   go_upto_region 1 with fail
   generalize (w.alloc (.cells #[.int .i8 r.f, .int .i64 r.d, .int .i8 r.g, .int .i64 r.e] 71)).alloc (.cells #[.int .i8 0, .int .i64 0, .int .i8 0, .int .i64 0] 71) = w0 at *
   have kHA0 := HA.out.c0
   have kHA1 := HA.out.c1
   have kHA2 := HA.out.c2
   have kHA3 := HA.out.c3
   go_wp2_with fail
   refine (r1.out _ HB.out.below).mono ?_
   rintro e u1 ⟨rfl, hbl⟩
   clear kHA0 kHA1 kHA2 kHA3
   have HB := Kp.mk (HB.out.step hbl)
   have HA := Kp.mk (HA.out.step hbl)
   have HR := Kp.mk (HR.out.step hbl)
   clear hbl
   have kHA0 := HA.out.c0
   have kHA1 := HA.out.c1
   have kHA2 := HA.out.c2
   have kHA3 := HA.out.c3
   go_upto_region 2 with fail
   clear kHA0 kHA1 kHA2 kHA3
   have HX := Kp.mk (eb_new x1 y1 24 HB.out.below)
   have hbl := (Below.refl u1.heap.size u1).alloc (Nat.le_refl _) (.cells #[.int .i8 x1, .int .i64 y1] 24)
   have HB := Kp.mk (HB.out.step hbl)
   have HA := Kp.mk (HA.out.step hbl)
   have HR := Kp.mk (HR.out.step hbl)
   clear hbl
   generalize u1.alloc (.cells #[.int .i8 x1, .int .i64 y1] 24) = u2 at *
   generalize u1.heap.size = gx at *
   have kHA0 := HA.out.c0
   have kHA1 := HA.out.c1
   have kHA2 := HA.out.c2
   have kHA3 := HA.out.c3
   have kHX0 := HX.out.c0
   have kHX1 := HX.out.c1
   go_wp2_with fail
   refine (r2.out _ HB.out.below).mono ?_
   rintro e u3 ⟨rfl, hbl⟩
   clear kHA0 kHA1 kHA2 kHA3 kHX0 kHX1
   have HB := Kp.mk (HB.out.step hbl)
   have HA := Kp.mk (HA.out.step hbl)
   have HX := Kp.mk (HX.out.step hbl)
   have HR := Kp.mk (HR.out.step hbl)
   clear hbl
   have kHA0 := HA.out.c0
   have kHA1 := HA.out.c1
   have kHA2 := HA.out.c2
   have kHA3 := HA.out.c3
   have kHX0 := HX.out.c0
   have kHX1 := HX.out.c1
   go_upto_region 3 with fail
   clear kHA0 kHA1 kHA2 kHA3 kHX0 kHX1
   have HY := Kp.mk (eb_new x2 y2 24 HB.out.below)
   have hbl := (Below.refl u3.heap.size u3).alloc (Nat.le_refl _) (.cells #[.int .i8 x2, .int .i64 y2] 24)
   have HB := Kp.mk (HB.out.step hbl)
   have HA := Kp.mk (HA.out.step hbl)
   have HX := Kp.mk (HX.out.step hbl)
   have HR := Kp.mk (HR.out.step hbl)
   clear hbl
   generalize u3.alloc (.cells #[.int .i8 x2, .int .i64 y2] 24) = u4 at *
   generalize u3.heap.size = gy at *
   have kHA0 := HA.out.c0
   have kHA1 := HA.out.c1
   have kHA2 := HA.out.c2
   have kHA3 := HA.out.c3
   have kHX0 := HX.out.c0
   have kHX1 := HX.out.c1
   have kHY0 := HY.out.c0
   have kHY1 := HY.out.c1
   go_wp2_with (first
    | refine wpList_store_row' rfl 71 (.tmp 4) (.tmp 33) rfl (w.heap.size + 1) #[.int .i8 0, .int .i64 0, .int .i8 0, .int .i64 0] rfl rfl 71 #[.int .i8 0, .int .i64 0, .int .i8 0, .int .i64 0] HR.out.heap infoPe rfl (four_rn _ _ _ _) ?_)
   refine bodyPost_ret (results_cell_tmp (p := 4) (ty := 71) rfl _ _ (w.heap.size + 1) 71 #[.int .i8 0, .int .i64 0, .int .i8 0, .int .i64 0] (0, 0) _ rfl (setRow_heap _ _ _ _ _ _ HR.out.heap) Tryz.underlying71 rfl infoPe) rfl ?_
   exact ⟨rfl, below_setRow HR.out.below HR.out.base _⟩
set_option maxHeartbeats 8000000 in
theorem dShift_bad {r : Rn} {k c : Int} (hr : r.In) (hc : chkR r = c) (h0 : ¬ c = 0) (w : World) (hL : LaidEn w) :
 Calls Tryz.prog 26 #[.agg #[.int .i8 r.f, .int .i64 r.d, .int .i8 r.g, .int .i64 r.e], .int .i64 k] w fun z w' => z = .returned (.tuple #[.agg #[.int .i8 0, .int .i64 0, .int .i8 0, .int .i64 0], .int .i64 c]) ∧ Below w.heap.size w w' := by
 obtain ⟨h1, h2, h3⟩ := ob_three w #[.int .i8 r.f, .int .i64 r.d, .int .i8 r.g, .int .i64 r.e] #[.int .i64 k] #[.int .i8 0, .int .i64 0, .int .i8 0, .int .i64 0] 26 2 26
 have HA := Kp.mk h1.rg
 have HK := Kp.mk h2
 have HR := Kp.mk h3
 have HB := Kp.mk (Bl.mk h1.below)
 clear h1 h2 h3
 have r1 : Kp (∀ u, Below w.heap.size w u → Calls Tryz.prog 9 #[.agg #[.int .i8 r.f, .int .i64 r.d, .int .i8 r.g, .int .i64 r.e]] u fun e w' => e = .returned (.int .i64 c) ∧ Below u.heap.size u w') := Kp.mk (fun u hw => dRChk_is hr hc u (hL.below hw))
 have t1 : (c != 0) = true := by rw [bne_iff_ne]; exact h0
 clear hr hc h0 hL
 go_enter Tryz.func26, Tryz.ntmps26
 go_upto_region 1 with fail
 generalize ((w.alloc (.cells #[.int .i8 r.f, .int .i64 r.d, .int .i8 r.g, .int .i64 r.e] 26)).alloc (.cells #[.int .i64 k] 2)).alloc (.cells #[.int .i8 0, .int .i64 0, .int .i8 0, .int .i64 0] 26) = w0 at *
 have kHA0 := HA.out.c0
 have kHA1 := HA.out.c1
 have kHA2 := HA.out.c2
 have kHA3 := HA.out.c3
 go_wp2_with fail
 refine (r1.out _ HB.out.below).mono ?_
 rintro e u1 ⟨rfl, hbl⟩
 clear kHA0 kHA1 kHA2 kHA3
 have HB := Kp.mk (HB.out.step hbl)
 have HA := Kp.mk (HA.out.step hbl)
 have HK := Kp.mk (HK.out.step hbl)
 have HR := Kp.mk (HR.out.step hbl)
 clear hbl
 have kHA0 := HA.out.c0
 have kHA1 := HA.out.c1
 have kHA2 := HA.out.c2
 have kHA3 := HA.out.c3
 go_wp2_with (first
  | refine wpList_store_row' rfl 26 (.tmp 4) (.tmp 13) rfl (w.heap.size + 1 + 1) #[.int .i8 0, .int .i64 0, .int .i8 0, .int .i64 0] rfl rfl 26 #[.int .i8 0, .int .i64 0, .int .i8 0, .int .i64 0] HR.out.heap infoRn rfl (four_rn _ _ _ _) ?_)
 refine bodyPost_ret (results_cell_tmp (p := 4) (ty := 26) rfl _ _ (w.heap.size + 1 + 1) 26 #[.int .i8 0, .int .i64 0, .int .i8 0, .int .i64 0] (0, 0) _ rfl (setRow_heap _ _ _ _ _ _ HR.out.heap) Tryz.underlying26 rfl infoRn) rfl ?_
 exact ⟨rfl, below_setRow HR.out.below HR.out.base _⟩
set_option maxHeartbeats 8000000 in
theorem dShift_run {r s : Rn} {k c : Int} (hr : r.In) (hc : chkR r = 0) (w : World) (hL : LaidEn w)
 (r3 : Kp (∀ u, Below w.heap.size w u → Ob w (w.heap.size + 1) 2 #[.int .i64 k] u → Calls Tryz.prog 50 #[.agg #[.int .i8 r.f, .int .i64 r.d, .int .i8 r.g, .int .i64 r.e], .func (.func 52) #[] #[.pointer (some ⟨w.heap.size + 1, 0, none⟩)]] u fun e w' => e = .returned (.tuple #[.agg #[.int .i8 s.f, .int .i64 s.d, .int .i8 s.g, .int .i64 s.e], .int .i64 c]) ∧ Below u.heap.size u w')) :
 Calls Tryz.prog 26 #[.agg #[.int .i8 r.f, .int .i64 r.d, .int .i8 r.g, .int .i64 r.e], .int .i64 k] w fun z w' => z = .returned (.tuple #[.agg #[.int .i8 s.f, .int .i64 s.d, .int .i8 s.g, .int .i64 s.e], .int .i64 c]) ∧ Below w.heap.size w w' := by
 obtain ⟨h1, h2, h3⟩ := ob_three w #[.int .i8 r.f, .int .i64 r.d, .int .i8 r.g, .int .i64 r.e] #[.int .i64 k] #[.int .i8 0, .int .i64 0, .int .i8 0, .int .i64 0] 26 2 26
 have HA := Kp.mk h1.rg
 have HK := Kp.mk h2
 have HR := Kp.mk h3
 have HB := Kp.mk (Bl.mk h1.below)
 clear h1 h2 h3
 have r1 : Kp (∀ u, Below w.heap.size w u → Calls Tryz.prog 9 #[.agg #[.int .i8 r.f, .int .i64 r.d, .int .i8 r.g, .int .i64 r.e]] u fun e w' => e = .returned (.int .i64 0) ∧ Below u.heap.size u w') := Kp.mk (fun u hw => dRChk_is hr hc u (hL.below hw))
 have r2 : Kp (∀ u, Below w.heap.size w u → Calls Tryz.prog 51 #[.agg #[.int .i8 r.f, .int .i64 r.d, .int .i8 r.g, .int .i64 r.e]] u fun e w' => e = .returned (.agg #[.int .i8 r.f, .int .i64 r.d, .int .i8 r.g, .int .i64 r.e]) ∧ Below u.heap.size u w') := Kp.mk (fun u _ => dEnds_is r u)
 have r4 : Kp (∀ u, Below w.heap.size w u → Calls Tryz.prog 54 #[.agg #[.int .i8 s.f, .int .i64 s.d, .int .i8 s.g, .int .i64 s.e]] u fun e w' => e = .returned (.agg #[.int .i8 s.f, .int .i64 s.d, .int .i8 s.g, .int .i64 s.e]) ∧ Below u.heap.size u w') := Kp.mk (fun u _ => dRun_is s u)
 clear hr hc hL
 go_enter Tryz.func26, Tryz.ntmps26
 go_upto_region 1 with fail
 generalize ((w.alloc (.cells #[.int .i8 r.f, .int .i64 r.d, .int .i8 r.g, .int .i64 r.e] 26)).alloc (.cells #[.int .i64 k] 2)).alloc (.cells #[.int .i8 0, .int .i64 0, .int .i8 0, .int .i64 0] 26) = w0 at *
 have kHA0 := HA.out.c0
 have kHA1 := HA.out.c1
 have kHA2 := HA.out.c2
 have kHA3 := HA.out.c3
 go_wp2_with fail
 refine (r1.out _ HB.out.below).mono ?_
 rintro e u1 ⟨rfl, hbl⟩
 clear kHA0 kHA1 kHA2 kHA3
 have HB := Kp.mk (HB.out.step hbl)
 have HA := Kp.mk (HA.out.step hbl)
 have HK := Kp.mk (HK.out.step hbl)
 have HR := Kp.mk (HR.out.step hbl)
 clear hbl
 have kHA0 := HA.out.c0
 have kHA1 := HA.out.c1
 have kHA2 := HA.out.c2
 have kHA3 := HA.out.c3
 go_wp2_with fail
 refine (r2.out _ HB.out.below).mono ?_
 rintro e u2 ⟨rfl, hbl⟩
 clear kHA0 kHA1 kHA2 kHA3
 have HB := Kp.mk (HB.out.step hbl)
 have HA := Kp.mk (HA.out.step hbl)
 have HK := Kp.mk (HK.out.step hbl)
 have HR := Kp.mk (HR.out.step hbl)
 clear hbl
 have kHA0 := HA.out.c0
 have kHA1 := HA.out.c1
 have kHA2 := HA.out.c2
 have kHA3 := HA.out.c3
 go_wp2_with fail
 refine (r3.out _ HB.out.below HK.out).mono ?_
 rintro e u3 ⟨rfl, hbl⟩
 clear kHA0 kHA1 kHA2 kHA3
 have HB := Kp.mk (HB.out.step hbl)
 have HA := Kp.mk (HA.out.step hbl)
 have HK := Kp.mk (HK.out.step hbl)
 have HR := Kp.mk (HR.out.step hbl)
 clear hbl
 have kHA0 := HA.out.c0
 have kHA1 := HA.out.c1
 have kHA2 := HA.out.c2
 have kHA3 := HA.out.c3
 go_upto_region 5 with fail
 clear kHA0 kHA1 kHA2 kHA3
 have HX := Kp.mk (rg_new s 71 HB.out.below)
 have hbl := (Below.refl u3.heap.size u3).alloc (Nat.le_refl _) (.cells #[.int .i8 s.f, .int .i64 s.d, .int .i8 s.g, .int .i64 s.e] 71)
 have HB := Kp.mk (HB.out.step hbl)
 have HA := Kp.mk (HA.out.step hbl)
 have HK := Kp.mk (HK.out.step hbl)
 have HR := Kp.mk (HR.out.step hbl)
 clear hbl
 generalize u3.alloc (.cells #[.int .i8 s.f, .int .i64 s.d, .int .i8 s.g, .int .i64 s.e] 71) = u4 at *
 generalize u3.heap.size = gx at *
 have kHA0 := HA.out.c0
 have kHA1 := HA.out.c1
 have kHA2 := HA.out.c2
 have kHA3 := HA.out.c3
 have kHX0 := HX.out.c0
 have kHX1 := HX.out.c1
 have kHX2 := HX.out.c2
 have kHX3 := HX.out.c3
 go_wp2_with fail
 refine (r4.out _ HB.out.below).mono ?_
 rintro e u5 ⟨rfl, hbl⟩
 clear kHA0 kHA1 kHA2 kHA3 kHX0 kHX1 kHX2 kHX3
 have HB := Kp.mk (HB.out.step hbl)
 have HA := Kp.mk (HA.out.step hbl)
 have HX := Kp.mk (HX.out.step hbl)
 have HK := Kp.mk (HK.out.step hbl)
 have HR := Kp.mk (HR.out.step hbl)
 clear hbl
 have kHA0 := HA.out.c0
 have kHA1 := HA.out.c1
 have kHA2 := HA.out.c2
 have kHA3 := HA.out.c3
 have kHX0 := HX.out.c0
 have kHX1 := HX.out.c1
 have kHX2 := HX.out.c2
 have kHX3 := HX.out.c3
 go_wp2_with (first
  | refine wpList_store_row' rfl 26 (.tmp 4) (.tmp 23) rfl (w.heap.size + 1 + 1) #[.int .i8 s.f, .int .i64 s.d, .int .i8 s.g, .int .i64 s.e] rfl rfl 26 #[.int .i8 0, .int .i64 0, .int .i8 0, .int .i64 0] HR.out.heap infoRn rfl (four_rn _ _ _ _) ?_)
 refine bodyPost_ret (results_cell_tmp (p := 4) (ty := 26) rfl _ _ (w.heap.size + 1 + 1) 26 #[.int .i8 s.f, .int .i64 s.d, .int .i8 s.g, .int .i64 s.e] (0, 0) _ rfl (setRow_heap _ _ _ _ _ _ HR.out.heap) Tryz.underlying26 rfl infoRn) rfl ?_
 exact ⟨rfl, below_setRow HR.out.below HR.out.base _⟩
set_option maxHeartbeats 8000000 in
theorem dShift_ok {r s : Rn} {k c : Int} (hr : r.In) (hc : chkR r = 0) (k0 : -9223372036854775808 ≤ k) (k1 : k ≤ 9223372036854775807) (h : MoveR r k s c) (w : World) (hL : LaidEn w) :
 Calls Tryz.prog 26 #[.agg #[.int .i8 r.f, .int .i64 r.d, .int .i8 r.g, .int .i64 r.e], .int .i64 k] w fun z w' => z = .returned (.tuple #[.agg #[.int .i8 s.f, .int .i64 s.d, .int .i8 s.g, .int .i64 s.e], .int .i64 c]) ∧ Below w.heap.size w w' := by
 obtain ⟨g, i, a, m1⟩ := move_is r.f r.d k
 obtain ⟨h', j, b, m2⟩ := move_is r.g r.e k
 refine dShift_run hr hc w hL (Kp.mk (fun u hw hk => ?_))
 have q1 : ∀ v, Below u.heap.size u v → Calls Tryz.prog 52 #[.agg #[.int .i8 r.f, .int .i64 r.d], .pointer (some ⟨w.heap.size + 1, 0, none⟩)] v fun e w' => e = .returned (.tuple #[.agg #[.int .i8 g, .int .i64 i], .int .i64 (if a then 0 else 15)]) ∧ Below v.heap.size v w' := fun v hv => dClo_is m1 rfl hr.d0 hr.d1 k0 k1 v (hL.below (hw.trans (hv.mono hw.size))) (hk.step hv).lt ((hk.step hv).cell rfl)
 have q2 : ∀ v, Below u.heap.size u v → Calls Tryz.prog 52 #[.agg #[.int .i8 r.g, .int .i64 r.e], .pointer (some ⟨w.heap.size + 1, 0, none⟩)] v fun e w' => e = .returned (.tuple #[.agg #[.int .i8 h', .int .i64 j], .int .i64 (if b then 0 else 15)]) ∧ Below v.heap.size v w' := fun v hv => dClo_is m2 rfl hr.e0 hr.e1 k0 k1 v (hL.below (hw.trans (hv.mono hw.size))) (hk.step hv).lt ((hk.step hv).cell rfl)
 cases ha : a with
 | true =>
  cases hb : b with
  | true =>
   subst ha hb
   obtain ⟨rfl, rfl⟩ := h.fits _ _ _ _ m1 m2
   exact eachE_ok u q1 q2
  | false =>
   subst ha hb
   obtain ⟨rfl, rfl⟩ := h.over _ _ _ _ _ _ m1 m2 rfl
   exact eachE_bad (by simp) (by decide) u q1 q2
 | false =>
  subst ha
  obtain ⟨rfl, rfl⟩ := h.over _ _ _ _ _ _ m1 m2 rfl
  refine eachE_bad ?_ (by decide) u q1 q2
  cases b <;> simp
end Go.Proofs.YteddfolhpoikcaaGreatDoor
