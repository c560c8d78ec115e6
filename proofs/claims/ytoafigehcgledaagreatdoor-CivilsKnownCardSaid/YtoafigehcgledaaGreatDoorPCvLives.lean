/-
  DERIVED. circalaw06's lives (the chapter's examples), given the contracts of package civils. Written by mkcvlives.py.
-/
import Derived.Test.YtoafigehcgledaaGreatDoorPCo
namespace Go.Proofs.YtoafigehcgledaaGreatDoor
open Go.RowKit

set_option maxRecDepth 100000 in
set_option maxHeartbeats 8000000 in
theorem lives_of {I : World → Prop} (C : CivCore I) (D : CivTxt I) (w : World) (hI : I w) : Calls Tryz.prog 14 #[] w fun e w' => e = .returned (.bool true) ∧ Below w.heap.size w w' := by
  have HB := Kp.mk (Bl.mk (Below.refl w.heap.size w))
  have HI := Kp.mk (fun (v : World) (h : Below w.heap.size w v) => C.keep hI h)
  clear hI
  have c1 := Kp.mk (fun w => civil_is 0 1 1 w)
  have c2 := Kp.mk (fun w => civil_is 1970 1 1 w)
  have c3 := Kp.mk (fun w => civil_is 2000 2 30 w)
  have c4 := Kp.mk (fun w => civil_is 1 13 1 w)
  have c5 := Kp.mk (fun w => civil_is (-1) 12 31 w)
  have c6 := Kp.mk (fun w => civil_is 2000 2 29 w)
  have c7 := Kp.mk (fun w => civil_is 2000 3 1 w)
  have c8 := Kp.mk (fun w => civil_is 1900 3 1 w)
  have c9 := Kp.mk (fun w => civil_is 0 0 0 w)
  have c10 := Kp.mk (fun w => civil_is 5 6 7 w)
  have c11 := Kp.mk (fun w => civil_is (-12345) 11 30 w)
  have r1 := Kp.mk (fun v (hw : Below w.heap.size w v) => C.day_in (y := 0) (m := 1) (d := 1) (v := 0) v (HI.out v hw) ⟨by decide, by decide, by decide, by decide, by decide⟩ (by decide))
  have r2 := Kp.mk (fun v (hw : Below w.heap.size w v) => C.day_in (y := 1970) (m := 1) (d := 1) (v := 719528) v (HI.out v hw) ⟨by decide, by decide, by decide, by decide, by decide⟩ (by decide))
  have r3 := Kp.mk (fun v (hw : Below w.heap.size w v) => C.day_out (y := 2000) (m := 2) (d := 30) (c := 8) v (HI.out v hw) (by decide) (by decide) (by decide) (by decide) (by decide) (by decide) (by decide) (by decide))
  have r4 := Kp.mk (fun v (hw : Below w.heap.size w v) => C.day_out (y := 1) (m := 13) (d := 1) (c := 7) v (HI.out v hw) (by decide) (by decide) (by decide) (by decide) (by decide) (by decide) (by decide) (by decide))
  have n1 := Kp.mk (fun w => num_ok 0 w)
  have n2 := Kp.mk (fun w => num_ok 719528 w)
  have r5 := Kp.mk (fun v (hw : Below w.heap.size w v) => C.of_in (y := (-1)) (m := 12) (d := 31) (n := -1) v (HI.out v hw) ⟨by decide, by decide, by decide, by decide, by decide⟩ (by decide))
  have r6 := Kp.mk (fun v (hw : Below w.heap.size w v) => C.of_in (y := 2000) (m := 2) (d := 29) (n := 730544) v (HI.out v hw) ⟨by decide, by decide, by decide, by decide, by decide⟩ (by decide))
  have vg1 := Kp.mk (fun w => gives_ok (-1) 12 31 w)
  have vg2 := Kp.mk (fun w => gives_ok 2000 2 29 w)
  have vg3 := Kp.mk (fun w => gives_ok 1900 3 1 w)
  have vg5 := Kp.mk (fun w => gives_ok 5 6 7 w)
  have vg4 := Kp.mk (fun w => gives_bad (e := 4) (by decide) 0 0 0 w)
  have vb5 := Kp.mk (fun w => gives_bad (e := 5) (by decide) 0 0 0 w)
  have vb8 := Kp.mk (fun w => gives_bad (e := 8) (by decide) 0 0 0 w)
  have w1 := Kp.mk (fun v (hw : Below w.heap.size w v) => C.wday (n := 0) (v := 5) v (HI.out v hw) (by decide) (by decide) (by decide))
  have w2 := Kp.mk (fun v (hw : Below w.heap.size w v) => C.wday (n := 719528) (v := 3) v (HI.out v hw) (by decide) (by decide) (by decide))
  have r7 := Kp.mk (fun v (hw : Below w.heap.size w v) => C.ord_in (y := 2000) (m := 3) (d := 1) (v := 61) v (HI.out v hw) ⟨by decide, by decide, by decide, by decide, by decide⟩ (by decide))
  have r8 := Kp.mk (fun v (hw : Below w.heap.size w v) => C.from_in (y := 1900) (m := 3) (d := 1) (n := 60) v (HI.out v hw) ⟨by decide, by decide, by decide, by decide, by decide⟩ (by decide))
  have r9 := Kp.mk (fun v (hw : Below w.heap.size w v) => C.from_out (y := 1900) (n := 366) v (HI.out v hw) (by decide) (by decide) (by decide) (by decide) (by decide) (by decide))
  have r10 := Kp.mk (fun v (hw : Below w.heap.size w v) => D.text_in (y := 5) (m := 6) (d := 7) v (HI.out v hw) ⟨by decide, by decide, by decide, by decide, by decide⟩)
  have r11 := Kp.mk (fun v (hw : Below w.heap.size w v) => D.text_in (y := (-12345)) (m := 11) (d := 30) v (HI.out v hw) ⟨by decide, by decide, by decide, by decide, by decide⟩)
  rw [txt_5] at r10
  rw [txt_12345] at r11
  have r12 : Kp (∀ v, Below w.heap.size w v → Calls Tryz.prog 28 #[.string ⟨#[48, 48, 48, 53, 45, 48, 54, 45, 48, 55]⟩] v fun x w' => x = .returned (.tuple #[.agg #[.int .i64 5, .int .i64 6, .int .i64 7], .int .i64 0]) ∧ Below v.heap.size v w') := Kp.mk (fun v hw => D.parse_in (l := [48, 48, 48, 53, 45, 48, 54, 45, 48, 55]) v (HI.out v hw) form_5 (by decide) (by decide))
  have p0 : Kp (∀ v, Below w.heap.size w v → Calls Tryz.prog 28 #[.string ⟨#[53, 45, 48, 54, 45, 48, 55]⟩] v fun x w' => x = .returned (.tuple #[.agg #[.int .i64 0, .int .i64 0, .int .i64 0], .int .i64 5]) ∧ Below v.heap.size v w') := Kp.mk (fun v hw => D.parse_no (l := [53, 45, 48, 54, 45, 48, 55]) v (HI.out v hw) (no_short (by decide)) (by decide))
  have p1 : Kp (∀ v, Below w.heap.size w v → Calls Tryz.prog 28 #[.string ⟨#[45, 48, 48, 48, 48, 45, 48, 49, 45, 48, 49]⟩] v fun x w' => x = .returned (.tuple #[.agg #[.int .i64 0, .int .i64 0, .int .i64 0], .int .i64 5]) ∧ Below v.heap.size v w') := Kp.mk (fun v hw => D.parse_no (l := [45, 48, 48, 48, 48, 45, 48, 49, 45, 48, 49]) v (HI.out v hw) no_zero (by decide))
  have p2 : Kp (∀ v, Below w.heap.size w v → Calls Tryz.prog 28 #[.string ⟨#[50, 48, 48, 49, 45, 48, 50, 45, 50, 57]⟩] v fun x w' => x = .returned (.tuple #[.agg #[.int .i64 0, .int .i64 0, .int .i64 0], .int .i64 8]) ∧ Below v.heap.size v w') := Kp.mk (fun v hw => D.parse_err (l := [50, 48, 48, 49, 45, 48, 50, 45, 50, 57]) v (HI.out v hw) form_2001 (by decide) (by decide) (by decide))
  have p3 : Kp (∀ v, Below w.heap.size w v → Calls Tryz.prog 28 #[.string ⟨#[50, 48, 48, 49, 45, 50, 45, 48, 51]⟩] v fun x w' => x = .returned (.tuple #[.agg #[.int .i64 0, .int .i64 0, .int .i64 0], .int .i64 5]) ∧ Below v.heap.size v w') := Kp.mk (fun v hw => D.parse_no (l := [50, 48, 48, 49, 45, 50, 45, 48, 51]) v (HI.out v hw) (no_short (by decide)) (by decide))
  clear C D
  go_enter Tryz.func14, Tryz.ntmps14
  go_wp2_with fail
  refine (c1.out _).mono ?_
  rintro e u1 ⟨rfl, hbl⟩
  have HB := Kp.mk (HB.out.step hbl)
  clear hbl
  go_wp2_with fail
  refine (r1.out _ HB.out.below).mono ?_
  rintro e u2 ⟨rfl, hbl⟩
  have HB := Kp.mk (HB.out.step hbl)
  clear hbl
  go_wp2_with fail
  refine (c2.out _).mono ?_
  rintro e u3 ⟨rfl, hbl⟩
  have HB := Kp.mk (HB.out.step hbl)
  clear hbl
  go_wp2_with fail
  refine (r2.out _ HB.out.below).mono ?_
  rintro e u4 ⟨rfl, hbl⟩
  have HB := Kp.mk (HB.out.step hbl)
  clear hbl
  go_wp2_with fail
  refine (c3.out _).mono ?_
  rintro e u5 ⟨rfl, hbl⟩
  have HB := Kp.mk (HB.out.step hbl)
  clear hbl
  go_wp2_with fail
  refine (r3.out _ HB.out.below).mono ?_
  rintro e u6 ⟨rfl, hbl⟩
  have HB := Kp.mk (HB.out.step hbl)
  clear hbl
  go_wp2_with fail
  refine (c4.out _).mono ?_
  rintro e u7 ⟨rfl, hbl⟩
  have HB := Kp.mk (HB.out.step hbl)
  clear hbl
  go_wp2_with fail
  refine (r4.out _ HB.out.below).mono ?_
  rintro e u8 ⟨rfl, hbl⟩
  have HB := Kp.mk (HB.out.step hbl)
  clear hbl
  go_wp2_with fail
  refine (n1.out _).mono ?_
  rintro e w' ⟨rfl, rfl⟩
  go_wp2_with fail
  refine (n2.out _).mono ?_
  rintro e w' ⟨rfl, rfl⟩
  go_wp2_with fail
  refine (r5.out _ HB.out.below).mono ?_
  rintro e u9 ⟨rfl, hbl⟩
  have HB := Kp.mk (HB.out.step hbl)
  clear hbl
  go_upto_region 8 with fail
  have HBo := HB
  have HX := Kp.mk (cv_new (-1) 12 31 23 HB.out.below)
  have hbl := (Below.refl u9.heap.size u9).alloc (Nat.le_refl _) (.cells #[.int .i64 (-1), .int .i64 12, .int .i64 31] 23)
  have HB := Kp.mk (HB.out.step hbl)
  clear hbl
  have hgHX := Kp.mk (show w.heap.size ≤ u9.heap.size from HBo.out.below.size)
  clear HBo 
  generalize u9.alloc (.cells #[.int .i64 (-1), .int .i64 12, .int .i64 31] 23) = u10 at *
  generalize u9.heap.size = g1 at *
  have kHX0 := HX.out.c0
  have kHX1 := HX.out.c1
  have kHX2 := HX.out.c2
  go_wp2_with fail
  refine (r6.out _ HB.out.below).mono ?_
  rintro e u11 ⟨rfl, hbl⟩
  clear kHX0 kHX1 kHX2
  have HB := Kp.mk (HB.out.step hbl)
  have HX := Kp.mk (HX.out.step hbl)
  clear hbl
  have kHX0 := HX.out.c0
  have kHX1 := HX.out.c1
  have kHX2 := HX.out.c2
  go_upto_region 9 with fail
  clear kHX0 kHX1 kHX2
  have HBo := HB
  have HXo := HX
  have HY := Kp.mk (cv_new 2000 2 29 23 HB.out.below)
  have hbl := (Below.refl u11.heap.size u11).alloc (Nat.le_refl _) (.cells #[.int .i64 2000, .int .i64 2, .int .i64 29] 23)
  have HB := Kp.mk (HB.out.step hbl)
  have HX := Kp.mk (HX.out.step hbl)
  clear hbl
  have hgHY := Kp.mk (show w.heap.size ≤ u11.heap.size from HBo.out.below.size)
  have hnHXHY := Kp.mk (show g1 < u11.heap.size from HXo.out.size)
  clear HBo HXo
  generalize u11.alloc (.cells #[.int .i64 2000, .int .i64 2, .int .i64 29] 23) = u12 at *
  generalize u11.heap.size = g2 at *
  have kHX0 := HX.out.c0
  have kHX1 := HX.out.c1
  have kHX2 := HX.out.c2
  have kHY0 := HY.out.c0
  have kHY1 := HY.out.c1
  have kHY2 := HY.out.c2
  go_upto_region 9 with fail
  have hbl := (Below.refl u12.heap.size u12).drew
  have HBz := Kp.mk (HB.out.step hbl)
  have HXz := Kp.mk (HX.out.step hbl)
  have HYz := Kp.mk (HY.out.step hbl)
  clear hbl
  go_region_held3 (fun w' => w'.cell? ⟨g1, 0, none⟩ = some (.int .i64 (-1)) ∧ w'.cell? ⟨g1, 1, none⟩ = some (.int .i64 12) ∧ w'.cell? ⟨g1, 2, none⟩ = some (.int .i64 31) ∧ w'.cell? ⟨g2, 0, none⟩ = some (.int .i64 2000) ∧ w'.cell? ⟨g2, 1, none⟩ = some (.int .i64 2) ∧ w'.cell? ⟨g2, 2, none⟩ = some (.int .i64 29)) (first | go_keep | exact ⟨kHX0_u13, kHX1_u13, kHX2_u13, kHY0_u13, kHY1_u13, kHY2_u13⟩ | exact ⟨kHX0_u14, kHX1_u14, kHX2_u14, kHY0_u14, kHY1_u14, kHY2_u14⟩ | exact ⟨kHX0_u15, kHX1_u15, kHX2_u15, kHY0_u15, kHY1_u15, kHY2_u15⟩ | exact ⟨kHX0_u16, kHX1_u16, kHX2_u16, kHY0_u16, kHY1_u16, kHY2_u16⟩ | exact ⟨kHX0_u17, kHX1_u17, kHX2_u17, kHY0_u17, kHY1_u17, kHY2_u17⟩ | exact ⟨kHX0_u18, kHX1_u18, kHX2_u18, kHY0_u18, kHY1_u18, kHY2_u18⟩)
    (first
      | (go_at_call 23; (with_reducible show Calls _ _ _ u12.drew _); refine (c5.out _).mono ?_; rintro e u13 ⟨rfl, hb⟩; have HB_u13 := Kp.mk (HBz.out.step hb); have HX_u13 := Kp.mk (HXz.out.step hb); have HY_u13 := Kp.mk (HYz.out.step hb); have kHX0_u13 := HX_u13.out.c0; have kHX1_u13 := HX_u13.out.c1; have kHX2_u13 := HX_u13.out.c2; have kHY0_u13 := HY_u13.out.c0; have kHY1_u13 := HY_u13.out.c1; have kHY2_u13 := HY_u13.out.c2; clear hb)
      | (go_at_call 19; (with_reducible show Calls _ _ _ u13 _); refine (vg1.out _).mono ?_; rintro e u14 ⟨rfl, hb⟩; have HB_u14 := Kp.mk (HB_u13.out.step hb); have HX_u14 := Kp.mk (HX_u13.out.step hb); have HY_u14 := Kp.mk (HY_u13.out.step hb); have kHX0_u14 := HX_u14.out.c0; have kHX1_u14 := HX_u14.out.c1; have kHX2_u14 := HX_u14.out.c2; have kHY0_u14 := HY_u14.out.c0; have kHY1_u14 := HY_u14.out.c1; have kHY2_u14 := HY_u14.out.c2; clear hb)
      | (go_at_call 23; (with_reducible show Calls _ _ _ u14 _); refine (c6.out _).mono ?_; rintro e u15 ⟨rfl, hb⟩; have HB_u15 := Kp.mk (HB_u14.out.step hb); have HX_u15 := Kp.mk (HX_u14.out.step hb); have HY_u15 := Kp.mk (HY_u14.out.step hb); have kHX0_u15 := HX_u15.out.c0; have kHX1_u15 := HX_u15.out.c1; have kHX2_u15 := HX_u15.out.c2; have kHY0_u15 := HY_u15.out.c0; have kHY1_u15 := HY_u15.out.c1; have kHY2_u15 := HY_u15.out.c2; clear hb)
      | (go_at_call 19; (with_reducible show Calls _ _ _ u15 _); refine (vg2.out _).mono ?_; rintro e u16 ⟨rfl, hb⟩; have HB_u16 := Kp.mk (HB_u15.out.step hb); have HX_u16 := Kp.mk (HX_u15.out.step hb); have HY_u16 := Kp.mk (HY_u15.out.step hb); have kHX0_u16 := HX_u16.out.c0; have kHX1_u16 := HX_u16.out.c1; have kHX2_u16 := HX_u16.out.c2; have kHY0_u16 := HY_u16.out.c0; have kHY1_u16 := HY_u16.out.c1; have kHY2_u16 := HY_u16.out.c2; clear hb)
      | (go_at_call 20; (with_reducible show Calls _ _ _ u16 _); refine (w1.out _ HB_u16.out.below).mono ?_; rintro e u17 ⟨rfl, hb⟩; have HB_u17 := Kp.mk (HB_u16.out.step hb); have HX_u17 := Kp.mk (HX_u16.out.step hb); have HY_u17 := Kp.mk (HY_u16.out.step hb); have kHX0_u17 := HX_u17.out.c0; have kHX1_u17 := HX_u17.out.c1; have kHX2_u17 := HX_u17.out.c2; have kHY0_u17 := HY_u17.out.c0; have kHY1_u17 := HY_u17.out.c1; have kHY2_u17 := HY_u17.out.c2; clear hb)
      | (go_at_call 20; (with_reducible show Calls _ _ _ u17 _); refine (w2.out _ HB_u17.out.below).mono ?_; rintro e u18 ⟨rfl, hb⟩; have HB_u18 := Kp.mk (HB_u17.out.step hb); have HX_u18 := Kp.mk (HX_u17.out.step hb); have HY_u18 := Kp.mk (HY_u17.out.step hb); have kHX0_u18 := HX_u18.out.c0; have kHX1_u18 := HX_u18.out.c1; have kHX2_u18 := HX_u18.out.c2; have kHY0_u18 := HY_u18.out.c0; have kHY1_u18 := HY_u18.out.c1; have kHY2_u18 := HY_u18.out.c2; clear hb))
  have HB := HB_u18
  have HX := HX_u18
  have HY := HY_u18
  have kHX0 := HX.out.c0
  have kHX1 := HX.out.c1
  have kHX2 := HX.out.c2
  have kHY0 := HY.out.c0
  have kHY1 := HY.out.c1
  have kHY2 := HY.out.c2
  go_wp2_with fail
  refine (c7.out _).mono ?_
  rintro e u19 ⟨rfl, hbl⟩
  clear kHX0 kHX1 kHX2 kHY0 kHY1 kHY2
  have HB := Kp.mk (HB.out.step hbl)
  have HX := Kp.mk (HX.out.step hbl)
  have HY := Kp.mk (HY.out.step hbl)
  clear hbl
  have kHX0 := HX.out.c0
  have kHX1 := HX.out.c1
  have kHX2 := HX.out.c2
  have kHY0 := HY.out.c0
  have kHY1 := HY.out.c1
  have kHY2 := HY.out.c2
  go_wp2_with fail
  refine (r7.out _ HB.out.below).mono ?_
  rintro e u20 ⟨rfl, hbl⟩
  clear kHX0 kHX1 kHX2 kHY0 kHY1 kHY2
  have HB := Kp.mk (HB.out.step hbl)
  have HX := Kp.mk (HX.out.step hbl)
  have HY := Kp.mk (HY.out.step hbl)
  clear hbl
  have kHX0 := HX.out.c0
  have kHX1 := HX.out.c1
  have kHX2 := HX.out.c2
  have kHY0 := HY.out.c0
  have kHY1 := HY.out.c1
  have kHY2 := HY.out.c2
  go_wp2_with fail
  refine (r8.out _ HB.out.below).mono ?_
  rintro e u21 ⟨rfl, hbl⟩
  clear kHX0 kHX1 kHX2 kHY0 kHY1 kHY2
  have HB := Kp.mk (HB.out.step hbl)
  have HX := Kp.mk (HX.out.step hbl)
  have HY := Kp.mk (HY.out.step hbl)
  clear hbl
  have kHX0 := HX.out.c0
  have kHX1 := HX.out.c1
  have kHX2 := HX.out.c2
  have kHY0 := HY.out.c0
  have kHY1 := HY.out.c1
  have kHY2 := HY.out.c2
  have kf0 := HX.out.f0
  have kf1 := HX.out.f1
  have kf2 := HX.out.f2
  go_upto_region 13 with fail
  clear kHX0 kHX1 kHX2 kHY0 kHY1 kHY2
  clear kf0 kf1 kf2
  rw [show ((u21.setCell ⟨g1, 0, none⟩ (.int .i64 1900)).setCell ⟨g1, 1, none⟩ (.int .i64 3)).setCell ⟨g1, 2, none⟩ (.int .i64 1) = World.set3 u21 g1 1900 3 1 from rfl]
  have HB := Kp.mk (Bl.mk (below_set3 HB.out.below hgHX.out 1900 3 1))
  have HY := Kp.mk (HY.out.other (by have := hnHXHY.out; omega) hgHX.out 1900 3 1)
  have HX := Kp.mk (HX.out.set hgHX.out 1900 3 1)
  generalize World.set3 u21 g1 1900 3 1 = u22 at *
  have kHX0 := HX.out.c0
  have kHX1 := HX.out.c1
  have kHX2 := HX.out.c2
  have kHY0 := HY.out.c0
  have kHY1 := HY.out.c1
  have kHY2 := HY.out.c2
  go_wp2_with fail
  refine (r9.out _ HB.out.below).mono ?_
  rintro e u23 ⟨rfl, hbl⟩
  clear kHX0 kHX1 kHX2 kHY0 kHY1 kHY2
  have HB := Kp.mk (HB.out.step hbl)
  have HX := Kp.mk (HX.out.step hbl)
  have HY := Kp.mk (HY.out.step hbl)
  clear hbl
  have kHX0 := HX.out.c0
  have kHX1 := HX.out.c1
  have kHX2 := HX.out.c2
  have kHY0 := HY.out.c0
  have kHY1 := HY.out.c1
  have kHY2 := HY.out.c2
  have kf0 := HY.out.f0
  have kf1 := HY.out.f1
  have kf2 := HY.out.f2
  go_upto_region 14 with fail
  clear kHX0 kHX1 kHX2 kHY0 kHY1 kHY2
  clear kf0 kf1 kf2
  rw [show ((u23.setCell ⟨g2, 0, none⟩ (.int .i64 0)).setCell ⟨g2, 1, none⟩ (.int .i64 0)).setCell ⟨g2, 2, none⟩ (.int .i64 0) = World.set3 u23 g2 0 0 0 from rfl]
  have HB := Kp.mk (Bl.mk (below_set3 HB.out.below hgHY.out 0 0 0))
  have HX := Kp.mk (HX.out.other (by have := hnHXHY.out; omega) hgHY.out 0 0 0)
  have HY := Kp.mk (HY.out.set hgHY.out 0 0 0)
  generalize World.set3 u23 g2 0 0 0 = u24 at *
  have kHX0 := HX.out.c0
  have kHX1 := HX.out.c1
  have kHX2 := HX.out.c2
  have kHY0 := HY.out.c0
  have kHY1 := HY.out.c1
  have kHY2 := HY.out.c2
  go_upto_region 14 with fail
  have hbl := (Below.refl u24.heap.size u24).drew
  have HBz := Kp.mk (HB.out.step hbl)
  have HXz := Kp.mk (HX.out.step hbl)
  have HYz := Kp.mk (HY.out.step hbl)
  clear hbl
  go_region_held3 (fun w' => w'.cell? ⟨g1, 0, none⟩ = some (.int .i64 1900) ∧ w'.cell? ⟨g1, 1, none⟩ = some (.int .i64 3) ∧ w'.cell? ⟨g1, 2, none⟩ = some (.int .i64 1) ∧ w'.cell? ⟨g2, 0, none⟩ = some (.int .i64 0) ∧ w'.cell? ⟨g2, 1, none⟩ = some (.int .i64 0) ∧ w'.cell? ⟨g2, 2, none⟩ = some (.int .i64 0)) (first | go_keep | exact ⟨kHX0_u25, kHX1_u25, kHX2_u25, kHY0_u25, kHY1_u25, kHY2_u25⟩ | exact ⟨kHX0_u26, kHX1_u26, kHX2_u26, kHY0_u26, kHY1_u26, kHY2_u26⟩ | exact ⟨kHX0_u27, kHX1_u27, kHX2_u27, kHY0_u27, kHY1_u27, kHY2_u27⟩ | exact ⟨kHX0_u28, kHX1_u28, kHX2_u28, kHY0_u28, kHY1_u28, kHY2_u28⟩)
    (first
      | (go_at_call 23; (with_reducible show Calls _ _ _ u24.drew _); refine (c8.out _).mono ?_; rintro e u25 ⟨rfl, hb⟩; have HB_u25 := Kp.mk (HBz.out.step hb); have HX_u25 := Kp.mk (HXz.out.step hb); have HY_u25 := Kp.mk (HYz.out.step hb); have kHX0_u25 := HX_u25.out.c0; have kHX1_u25 := HX_u25.out.c1; have kHX2_u25 := HX_u25.out.c2; have kHY0_u25 := HY_u25.out.c0; have kHY1_u25 := HY_u25.out.c1; have kHY2_u25 := HY_u25.out.c2; clear hb)
      | (go_at_call 19; (with_reducible show Calls _ _ _ u25 _); refine (vg3.out _).mono ?_; rintro e u26 ⟨rfl, hb⟩; have HB_u26 := Kp.mk (HB_u25.out.step hb); have HX_u26 := Kp.mk (HX_u25.out.step hb); have HY_u26 := Kp.mk (HY_u25.out.step hb); have kHX0_u26 := HX_u26.out.c0; have kHX1_u26 := HX_u26.out.c1; have kHX2_u26 := HX_u26.out.c2; have kHY0_u26 := HY_u26.out.c0; have kHY1_u26 := HY_u26.out.c1; have kHY2_u26 := HY_u26.out.c2; clear hb)
      | (go_at_call 23; (with_reducible show Calls _ _ _ u26 _); refine (c9.out _).mono ?_; rintro e u27 ⟨rfl, hb⟩; have HB_u27 := Kp.mk (HB_u26.out.step hb); have HX_u27 := Kp.mk (HX_u26.out.step hb); have HY_u27 := Kp.mk (HY_u26.out.step hb); have kHX0_u27 := HX_u27.out.c0; have kHX1_u27 := HX_u27.out.c1; have kHX2_u27 := HX_u27.out.c2; have kHY0_u27 := HY_u27.out.c0; have kHY1_u27 := HY_u27.out.c1; have kHY2_u27 := HY_u27.out.c2; clear hb)
      | (go_at_call 19; (with_reducible show Calls _ _ _ u27 _); refine (vg4.out _).mono ?_; rintro e u28 ⟨rfl, hb⟩; have HB_u28 := Kp.mk (HB_u27.out.step hb); have HX_u28 := Kp.mk (HX_u27.out.step hb); have HY_u28 := Kp.mk (HY_u27.out.step hb); have kHX0_u28 := HX_u28.out.c0; have kHX1_u28 := HX_u28.out.c1; have kHX2_u28 := HX_u28.out.c2; have kHY0_u28 := HY_u28.out.c0; have kHY1_u28 := HY_u28.out.c1; have kHY2_u28 := HY_u28.out.c2; clear hb))
  have HB := HB_u28
  have HX := HX_u28
  have HY := HY_u28
  have kHX0 := HX.out.c0
  have kHX1 := HX.out.c1
  have kHX2 := HX.out.c2
  have kHY0 := HY.out.c0
  have kHY1 := HY.out.c1
  have kHY2 := HY.out.c2
  go_wp2_with fail
  refine (c10.out _).mono ?_
  rintro e u29 ⟨rfl, hbl⟩
  clear kHX0 kHX1 kHX2 kHY0 kHY1 kHY2
  have HB := Kp.mk (HB.out.step hbl)
  have HX := Kp.mk (HX.out.step hbl)
  have HY := Kp.mk (HY.out.step hbl)
  clear hbl
  have kHX0 := HX.out.c0
  have kHX1 := HX.out.c1
  have kHX2 := HX.out.c2
  have kHY0 := HY.out.c0
  have kHY1 := HY.out.c1
  have kHY2 := HY.out.c2
  go_wp2_with fail
  refine (r10.out _ HB.out.below).mono ?_
  rintro e u30 ⟨rfl, hbl⟩
  clear kHX0 kHX1 kHX2 kHY0 kHY1 kHY2
  have HB := Kp.mk (HB.out.step hbl)
  have HX := Kp.mk (HX.out.step hbl)
  have HY := Kp.mk (HY.out.step hbl)
  clear hbl
  have kHX0 := HX.out.c0
  have kHX1 := HX.out.c1
  have kHX2 := HX.out.c2
  have kHY0 := HY.out.c0
  have kHY1 := HY.out.c1
  have kHY2 := HY.out.c2
  go_wp2_with fail
  refine (c11.out _).mono ?_
  rintro e u31 ⟨rfl, hbl⟩
  clear kHX0 kHX1 kHX2 kHY0 kHY1 kHY2
  have HB := Kp.mk (HB.out.step hbl)
  have HX := Kp.mk (HX.out.step hbl)
  have HY := Kp.mk (HY.out.step hbl)
  clear hbl
  have kHX0 := HX.out.c0
  have kHX1 := HX.out.c1
  have kHX2 := HX.out.c2
  have kHY0 := HY.out.c0
  have kHY1 := HY.out.c1
  have kHY2 := HY.out.c2
  go_wp2_with fail
  refine (r11.out _ HB.out.below).mono ?_
  rintro e u32 ⟨rfl, hbl⟩
  clear kHX0 kHX1 kHX2 kHY0 kHY1 kHY2
  have HB := Kp.mk (HB.out.step hbl)
  have HX := Kp.mk (HX.out.step hbl)
  have HY := Kp.mk (HY.out.step hbl)
  clear hbl
  have kHX0 := HX.out.c0
  have kHX1 := HX.out.c1
  have kHX2 := HX.out.c2
  have kHY0 := HY.out.c0
  have kHY1 := HY.out.c1
  have kHY2 := HY.out.c2
  go_wp2_with fail
  refine (r12.out _ HB.out.below).mono ?_
  rintro e u33 ⟨rfl, hbl⟩
  clear kHX0 kHX1 kHX2 kHY0 kHY1 kHY2
  have HB := Kp.mk (HB.out.step hbl)
  have HX := Kp.mk (HX.out.step hbl)
  have HY := Kp.mk (HY.out.step hbl)
  clear hbl
  have kHX0 := HX.out.c0
  have kHX1 := HX.out.c1
  have kHX2 := HX.out.c2
  have kHY0 := HY.out.c0
  have kHY1 := HY.out.c1
  have kHY2 := HY.out.c2
  have kf0 := HX.out.f0
  have kf1 := HX.out.f1
  have kf2 := HX.out.f2
  go_upto_region 19 with fail
  clear kHX0 kHX1 kHX2 kHY0 kHY1 kHY2
  clear kf0 kf1 kf2
  rw [show ((u33.setCell ⟨g1, 0, none⟩ (.int .i64 5)).setCell ⟨g1, 1, none⟩ (.int .i64 6)).setCell ⟨g1, 2, none⟩ (.int .i64 7) = World.set3 u33 g1 5 6 7 from rfl]
  have HB := Kp.mk (Bl.mk (below_set3 HB.out.below hgHX.out 5 6 7))
  have HY := Kp.mk (HY.out.other (by have := hnHXHY.out; omega) hgHX.out 5 6 7)
  have HX := Kp.mk (HX.out.set hgHX.out 5 6 7)
  generalize World.set3 u33 g1 5 6 7 = u34 at *
  have kHX0 := HX.out.c0
  have kHX1 := HX.out.c1
  have kHX2 := HX.out.c2
  have kHY0 := HY.out.c0
  have kHY1 := HY.out.c1
  have kHY2 := HY.out.c2
  go_upto_region 19 with fail
  have hbl := (Below.refl u34.heap.size u34).drew
  have HBz := Kp.mk (HB.out.step hbl)
  have HXz := Kp.mk (HX.out.step hbl)
  have HYz := Kp.mk (HY.out.step hbl)
  clear hbl
  go_region_held3 (fun w' => w'.cell? ⟨g1, 0, none⟩ = some (.int .i64 5) ∧ w'.cell? ⟨g1, 1, none⟩ = some (.int .i64 6) ∧ w'.cell? ⟨g1, 2, none⟩ = some (.int .i64 7) ∧ w'.cell? ⟨g2, 0, none⟩ = some (.int .i64 0) ∧ w'.cell? ⟨g2, 1, none⟩ = some (.int .i64 0) ∧ w'.cell? ⟨g2, 2, none⟩ = some (.int .i64 0)) (first | go_keep | exact ⟨kHX0_u35, kHX1_u35, kHX2_u35, kHY0_u35, kHY1_u35, kHY2_u35⟩ | exact ⟨kHX0_u36, kHX1_u36, kHX2_u36, kHY0_u36, kHY1_u36, kHY2_u36⟩)
    (first
      | (go_at_call 23; (with_reducible show Calls _ _ _ u34.drew _); refine (c10.out _).mono ?_; rintro e u35 ⟨rfl, hb⟩; have HB_u35 := Kp.mk (HBz.out.step hb); have HX_u35 := Kp.mk (HXz.out.step hb); have HY_u35 := Kp.mk (HYz.out.step hb); have kHX0_u35 := HX_u35.out.c0; have kHX1_u35 := HX_u35.out.c1; have kHX2_u35 := HX_u35.out.c2; have kHY0_u35 := HY_u35.out.c0; have kHY1_u35 := HY_u35.out.c1; have kHY2_u35 := HY_u35.out.c2; clear hb)
      | (go_at_call 19; (with_reducible show Calls _ _ _ u35 _); refine (vg5.out _).mono ?_; rintro e u36 ⟨rfl, hb⟩; have HB_u36 := Kp.mk (HB_u35.out.step hb); have HX_u36 := Kp.mk (HX_u35.out.step hb); have HY_u36 := Kp.mk (HY_u35.out.step hb); have kHX0_u36 := HX_u36.out.c0; have kHX1_u36 := HX_u36.out.c1; have kHX2_u36 := HX_u36.out.c2; have kHY0_u36 := HY_u36.out.c0; have kHY1_u36 := HY_u36.out.c1; have kHY2_u36 := HY_u36.out.c2; clear hb))
  have HB := HB_u36
  have HX := HX_u36
  have HY := HY_u36
  have kHX0 := HX.out.c0
  have kHX1 := HX.out.c1
  have kHX2 := HX.out.c2
  have kHY0 := HY.out.c0
  have kHY1 := HY.out.c1
  have kHY2 := HY.out.c2
  clear c1 c2 c3 c4 c5 c6 c7 c8 c10 c11 r1 r2 r3 r4 r5 r6 r7 r8 r9 r10 r11 r12 n1 n2 vg1 vg2 vg3 vg4 vg5 w1 w2
  go_wp2_with fail
  clear kHX0 kHX1 kHX2 kHY0 kHY1 kHY2
  have HX0 := HX
  have HS := Kp.mk (vals_new [.string ⟨#[53, 45, 48, 54, 45, 48, 55]⟩, .string ⟨#[45, 48, 48, 48, 48, 45, 48, 49, 45, 48, 49]⟩, .string ⟨#[50, 48, 48, 49, 45, 48, 50, 45, 50, 57]⟩, .string ⟨#[50, 48, 48, 49, 45, 50, 45, 48, 51]⟩] 9 HB.out.below)
  have hb1 := (Below.refl u36.heap.size u36).alloc (Nat.le_refl _) (.cells #[.string ⟨#[53, 45, 48, 54, 45, 48, 55]⟩, .string ⟨#[45, 48, 48, 48, 48, 45, 48, 49, 45, 48, 49]⟩, .string ⟨#[50, 48, 48, 49, 45, 48, 50, 45, 50, 57]⟩, .string ⟨#[50, 48, 48, 49, 45, 50, 45, 48, 51]⟩] 9)
  have HX := Kp.mk (HX.out.step hb1)
  have hnHXHS := Kp.mk (show g1 < u36.heap.size from HX0.out.size)
  have HE := Kp.mk (vals_new [.int .i64 5, .int .i64 5, .int .i64 8, .int .i64 5] 24 HS.out.below)
  have hb2 := (Below.refl (u36.alloc (.cells #[.string ⟨#[53, 45, 48, 54, 45, 48, 55]⟩, .string ⟨#[45, 48, 48, 48, 48, 45, 48, 49, 45, 48, 49]⟩, .string ⟨#[50, 48, 48, 49, 45, 48, 50, 45, 50, 57]⟩, .string ⟨#[50, 48, 48, 49, 45, 50, 45, 48, 51]⟩] 9)).heap.size (u36.alloc (.cells #[.string ⟨#[53, 45, 48, 54, 45, 48, 55]⟩, .string ⟨#[45, 48, 48, 48, 48, 45, 48, 49, 45, 48, 49]⟩, .string ⟨#[50, 48, 48, 49, 45, 48, 50, 45, 50, 57]⟩, .string ⟨#[50, 48, 48, 49, 45, 50, 45, 48, 51]⟩] 9))).alloc (Nat.le_refl _) (.cells #[.int .i64 5, .int .i64 5, .int .i64 8, .int .i64 5] 24)
  have HX := Kp.mk (HX.out.step hb2)
  have HS := Kp.mk (HS.out.step hb2)
  rw [World.size_alloc] at HE
  clear hb1 hb2
  have hnHXHE : Kp (g1 < u36.heap.size + 1) := Kp.mk (Nat.lt_succ_of_lt hnHXHS.out)
  change Code.wp _ _ _ _ ((u36.alloc (.cells #[.string ⟨#[53, 45, 48, 54, 45, 48, 55]⟩, .string ⟨#[45, 48, 48, 48, 48, 45, 48, 49, 45, 48, 49]⟩, .string ⟨#[50, 48, 48, 49, 45, 48, 50, 45, 50, 57]⟩, .string ⟨#[50, 48, 48, 49, 45, 50, 45, 48, 51]⟩] 9)).alloc (.cells #[.int .i64 5, .int .i64 5, .int .i64 8, .int .i64 5] 24))
  generalize (u36.alloc (.cells #[.string ⟨#[53, 45, 48, 54, 45, 48, 55]⟩, .string ⟨#[45, 48, 48, 48, 48, 45, 48, 49, 45, 48, 49]⟩, .string ⟨#[50, 48, 48, 49, 45, 48, 50, 45, 50, 57]⟩, .string ⟨#[50, 48, 48, 49, 45, 50, 45, 48, 51]⟩] 9)).alloc (.cells #[.int .i64 5, .int .i64 5, .int .i64 8, .int .i64 5] 24) = v0 at *
  generalize hge : u36.heap.size + 1 = ge at *
  generalize u36.heap.size = gs at *
  clear hge HB HY
  go_loopw [16] (fun i wr => ∃ k : Nat, k ≤ 4 ∧ i = .int .i64 k ∧ Kp (∃ a b c, Cv w g1 a b c wr) ∧ Kp (Vals w gs [.string ⟨#[53, 45, 48, 54, 45, 48, 55]⟩, .string ⟨#[45, 48, 48, 48, 48, 45, 48, 49, 45, 48, 49]⟩, .string ⟨#[50, 48, 48, 49, 45, 48, 50, 45, 50, 57]⟩, .string ⟨#[50, 48, 48, 49, 45, 50, 45, 48, 51]⟩] wr) ∧ Kp (Vals w ge [.int .i64 5, .int .i64 5, .int .i64 8, .int .i64 5] wr)) (fun i _ => 4 - (intOf i).toNat)
  case atStart => exact ⟨0, by omega, rfl, Kp.mk ⟨_, _, _, HX.out⟩, HS, HE⟩
  case round =>
    obtain ⟨k, hk, rfl, HXe, HS, HE⟩ := hrel
    obtain ⟨a, b, c, hX⟩ := HXe.out
    have HX := Kp.mk hX
    clear hX HXe
    have HB := Kp.mk HX.out.bl
    by_cases hlt : k < 4
    · rcases (show k = 0 ∨ k = 1 ∨ k = 2 ∨ k = 3 by omega) with rfl | rfl | rfl | rfl
      · clear hlt hk
        have cs : wr.cell? ⟨gs, 0, none⟩ = some (.string ⟨#[53, 45, 48, 54, 45, 48, 55]⟩) := HS.out.v_at 0 _ rfl
        go_wp2_with fail
        refine (p0.out _ HB.out.below).mono ?_
        rintro e u101 ⟨rfl, hbl⟩
        have HB := Kp.mk (HB.out.step hbl)
        have HX := Kp.mk (HX.out.step hbl)
        have HS := Kp.mk (HS.out.step hbl)
        have HE := Kp.mk (HE.out.step hbl)
        clear hbl
        have kHX0 := HX.out.c0
        have kHX1 := HX.out.c1
        have kHX2 := HX.out.c2
        have kf0 := HX.out.f0
        have kf1 := HX.out.f1
        have kf2 := HX.out.f2
        clear cs
        go_upto_region 26 with fail
        clear kHX0 kHX1 kHX2
        clear kf0 kf1 kf2
        rw [show ((u101.setCell ⟨g1, 0, none⟩ (.int .i64 0)).setCell ⟨g1, 1, none⟩ (.int .i64 0)).setCell ⟨g1, 2, none⟩ (.int .i64 0) = World.set3 u101 g1 0 0 0 from rfl]
        have HB := Kp.mk (Bl.mk (below_set3 HB.out.below hgHX.out 0 0 0))
        have HS := Kp.mk (HS.out.other (by have := hnHXHS.out; omega) hgHX.out 0 0 0)
        have HE := Kp.mk (HE.out.other (by have := hnHXHE.out; omega) hgHX.out 0 0 0)
        have HX := Kp.mk (HX.out.set hgHX.out 0 0 0)
        generalize World.set3 u101 g1 0 0 0 = u102 at *
        have kHX0 := HX.out.c0
        have kHX1 := HX.out.c1
        have kHX2 := HX.out.c2
        go_upto_region 26 with fail
        have kx0 : u102.cell? ⟨ge, 0, none⟩ = some (.int .i64 5) := HE.out.v_at 0 _ rfl
        have hbl := (Below.refl u102.heap.size u102).drew
        have HBz := Kp.mk (HB.out.step hbl)
        have HXz := Kp.mk (HX.out.step hbl)
        have HSz := Kp.mk (HS.out.step hbl)
        have HEz := Kp.mk (HE.out.step hbl)
        clear hbl
        go_region_held3 (fun w' => w'.cell? ⟨g1, 0, none⟩ = some (.int .i64 0) ∧ w'.cell? ⟨g1, 1, none⟩ = some (.int .i64 0) ∧ w'.cell? ⟨g1, 2, none⟩ = some (.int .i64 0) ∧ w'.cell? ⟨ge, 0, none⟩ = some (.int .i64 5)) (first | go_keep | exact ⟨kHX0_u103, kHX1_u103, kHX2_u103, kx0_u103⟩ | exact ⟨kHX0_u104, kHX1_u104, kHX2_u104, kx0_u104⟩)
          (first
            | (go_at_call 23; (with_reducible show Calls _ _ _ u102.drew _); refine (c9.out _).mono ?_; rintro e u103 ⟨rfl, hb⟩; have HB_u103 := Kp.mk (HBz.out.step hb); have HX_u103 := Kp.mk (HXz.out.step hb); have HS_u103 := Kp.mk (HSz.out.step hb); have HE_u103 := Kp.mk (HEz.out.step hb); have kHX0_u103 := HX_u103.out.c0; have kHX1_u103 := HX_u103.out.c1; have kHX2_u103 := HX_u103.out.c2; have kx0_u103 : u103.cell? ⟨ge, 0, none⟩ = some (.int .i64 5) := HE_u103.out.v_at 0 _ rfl; clear hb)
            | (go_at_call 19; (with_reducible show Calls _ _ _ u103 _); refine (vb5.out _).mono ?_; rintro e u104 ⟨rfl, hb⟩; have HB_u104 := Kp.mk (HB_u103.out.step hb); have HX_u104 := Kp.mk (HX_u103.out.step hb); have HS_u104 := Kp.mk (HS_u103.out.step hb); have HE_u104 := Kp.mk (HE_u103.out.step hb); have kHX0_u104 := HX_u104.out.c0; have kHX1_u104 := HX_u104.out.c1; have kHX2_u104 := HX_u104.out.c2; have kx0_u104 : u104.cell? ⟨ge, 0, none⟩ = some (.int .i64 5) := HE_u104.out.v_at 0 _ rfl; clear hb))
        have HB := HB_u104
        have HX := HX_u104
        have HS := HS_u104
        have HE := HE_u104
        clear kx0
        have kHX0 := HX.out.c0
        have kHX1 := HX.out.c1
        have kHX2 := HX.out.c2
        go_wp2_with fail
        go_roundw
        case rel =>
          first
            | exact ⟨1, by omega, rfl, Kp.mk ⟨_, _, _, HX.out⟩, HS, HE⟩
            | ((repeat apply Exists.intro); exact ⟨⟨1, by omega, rfl, Kp.mk ⟨_, _, _, HX.out⟩, HS, HE⟩, rfl⟩)
        case measure => simp [intOf]
      · clear hlt hk
        have cs : wr.cell? ⟨gs, 1, none⟩ = some (.string ⟨#[45, 48, 48, 48, 48, 45, 48, 49, 45, 48, 49]⟩) := HS.out.v_at 1 _ rfl
        go_wp2_with fail
        refine (p1.out _ HB.out.below).mono ?_
        rintro e u101 ⟨rfl, hbl⟩
        have HB := Kp.mk (HB.out.step hbl)
        have HX := Kp.mk (HX.out.step hbl)
        have HS := Kp.mk (HS.out.step hbl)
        have HE := Kp.mk (HE.out.step hbl)
        clear hbl
        have kHX0 := HX.out.c0
        have kHX1 := HX.out.c1
        have kHX2 := HX.out.c2
        have kf0 := HX.out.f0
        have kf1 := HX.out.f1
        have kf2 := HX.out.f2
        clear cs
        go_upto_region 26 with fail
        clear kHX0 kHX1 kHX2
        clear kf0 kf1 kf2
        rw [show ((u101.setCell ⟨g1, 0, none⟩ (.int .i64 0)).setCell ⟨g1, 1, none⟩ (.int .i64 0)).setCell ⟨g1, 2, none⟩ (.int .i64 0) = World.set3 u101 g1 0 0 0 from rfl]
        have HB := Kp.mk (Bl.mk (below_set3 HB.out.below hgHX.out 0 0 0))
        have HS := Kp.mk (HS.out.other (by have := hnHXHS.out; omega) hgHX.out 0 0 0)
        have HE := Kp.mk (HE.out.other (by have := hnHXHE.out; omega) hgHX.out 0 0 0)
        have HX := Kp.mk (HX.out.set hgHX.out 0 0 0)
        generalize World.set3 u101 g1 0 0 0 = u102 at *
        have kHX0 := HX.out.c0
        have kHX1 := HX.out.c1
        have kHX2 := HX.out.c2
        go_upto_region 26 with fail
        have kx0 : u102.cell? ⟨ge, 1, none⟩ = some (.int .i64 5) := HE.out.v_at 1 _ rfl
        have hbl := (Below.refl u102.heap.size u102).drew
        have HBz := Kp.mk (HB.out.step hbl)
        have HXz := Kp.mk (HX.out.step hbl)
        have HSz := Kp.mk (HS.out.step hbl)
        have HEz := Kp.mk (HE.out.step hbl)
        clear hbl
        go_region_held3 (fun w' => w'.cell? ⟨g1, 0, none⟩ = some (.int .i64 0) ∧ w'.cell? ⟨g1, 1, none⟩ = some (.int .i64 0) ∧ w'.cell? ⟨g1, 2, none⟩ = some (.int .i64 0) ∧ w'.cell? ⟨ge, 1, none⟩ = some (.int .i64 5)) (first | go_keep | exact ⟨kHX0_u103, kHX1_u103, kHX2_u103, kx0_u103⟩ | exact ⟨kHX0_u104, kHX1_u104, kHX2_u104, kx0_u104⟩)
          (first
            | (go_at_call 23; (with_reducible show Calls _ _ _ u102.drew _); refine (c9.out _).mono ?_; rintro e u103 ⟨rfl, hb⟩; have HB_u103 := Kp.mk (HBz.out.step hb); have HX_u103 := Kp.mk (HXz.out.step hb); have HS_u103 := Kp.mk (HSz.out.step hb); have HE_u103 := Kp.mk (HEz.out.step hb); have kHX0_u103 := HX_u103.out.c0; have kHX1_u103 := HX_u103.out.c1; have kHX2_u103 := HX_u103.out.c2; have kx0_u103 : u103.cell? ⟨ge, 1, none⟩ = some (.int .i64 5) := HE_u103.out.v_at 1 _ rfl; clear hb)
            | (go_at_call 19; (with_reducible show Calls _ _ _ u103 _); refine (vb5.out _).mono ?_; rintro e u104 ⟨rfl, hb⟩; have HB_u104 := Kp.mk (HB_u103.out.step hb); have HX_u104 := Kp.mk (HX_u103.out.step hb); have HS_u104 := Kp.mk (HS_u103.out.step hb); have HE_u104 := Kp.mk (HE_u103.out.step hb); have kHX0_u104 := HX_u104.out.c0; have kHX1_u104 := HX_u104.out.c1; have kHX2_u104 := HX_u104.out.c2; have kx0_u104 : u104.cell? ⟨ge, 1, none⟩ = some (.int .i64 5) := HE_u104.out.v_at 1 _ rfl; clear hb))
        have HB := HB_u104
        have HX := HX_u104
        have HS := HS_u104
        have HE := HE_u104
        clear kx0
        have kHX0 := HX.out.c0
        have kHX1 := HX.out.c1
        have kHX2 := HX.out.c2
        go_wp2_with fail
        go_roundw
        case rel =>
          first
            | exact ⟨2, by omega, rfl, Kp.mk ⟨_, _, _, HX.out⟩, HS, HE⟩
            | ((repeat apply Exists.intro); exact ⟨⟨2, by omega, rfl, Kp.mk ⟨_, _, _, HX.out⟩, HS, HE⟩, rfl⟩)
        case measure => simp [intOf]
      · clear hlt hk
        have cs : wr.cell? ⟨gs, 2, none⟩ = some (.string ⟨#[50, 48, 48, 49, 45, 48, 50, 45, 50, 57]⟩) := HS.out.v_at 2 _ rfl
        go_wp2_with fail
        refine (p2.out _ HB.out.below).mono ?_
        rintro e u101 ⟨rfl, hbl⟩
        have HB := Kp.mk (HB.out.step hbl)
        have HX := Kp.mk (HX.out.step hbl)
        have HS := Kp.mk (HS.out.step hbl)
        have HE := Kp.mk (HE.out.step hbl)
        clear hbl
        have kHX0 := HX.out.c0
        have kHX1 := HX.out.c1
        have kHX2 := HX.out.c2
        have kf0 := HX.out.f0
        have kf1 := HX.out.f1
        have kf2 := HX.out.f2
        clear cs
        go_upto_region 26 with fail
        clear kHX0 kHX1 kHX2
        clear kf0 kf1 kf2
        rw [show ((u101.setCell ⟨g1, 0, none⟩ (.int .i64 0)).setCell ⟨g1, 1, none⟩ (.int .i64 0)).setCell ⟨g1, 2, none⟩ (.int .i64 0) = World.set3 u101 g1 0 0 0 from rfl]
        have HB := Kp.mk (Bl.mk (below_set3 HB.out.below hgHX.out 0 0 0))
        have HS := Kp.mk (HS.out.other (by have := hnHXHS.out; omega) hgHX.out 0 0 0)
        have HE := Kp.mk (HE.out.other (by have := hnHXHE.out; omega) hgHX.out 0 0 0)
        have HX := Kp.mk (HX.out.set hgHX.out 0 0 0)
        generalize World.set3 u101 g1 0 0 0 = u102 at *
        have kHX0 := HX.out.c0
        have kHX1 := HX.out.c1
        have kHX2 := HX.out.c2
        go_upto_region 26 with fail
        have kx0 : u102.cell? ⟨ge, 2, none⟩ = some (.int .i64 8) := HE.out.v_at 2 _ rfl
        have hbl := (Below.refl u102.heap.size u102).drew
        have HBz := Kp.mk (HB.out.step hbl)
        have HXz := Kp.mk (HX.out.step hbl)
        have HSz := Kp.mk (HS.out.step hbl)
        have HEz := Kp.mk (HE.out.step hbl)
        clear hbl
        go_region_held3 (fun w' => w'.cell? ⟨g1, 0, none⟩ = some (.int .i64 0) ∧ w'.cell? ⟨g1, 1, none⟩ = some (.int .i64 0) ∧ w'.cell? ⟨g1, 2, none⟩ = some (.int .i64 0) ∧ w'.cell? ⟨ge, 2, none⟩ = some (.int .i64 8)) (first | go_keep | exact ⟨kHX0_u103, kHX1_u103, kHX2_u103, kx0_u103⟩ | exact ⟨kHX0_u104, kHX1_u104, kHX2_u104, kx0_u104⟩)
          (first
            | (go_at_call 23; (with_reducible show Calls _ _ _ u102.drew _); refine (c9.out _).mono ?_; rintro e u103 ⟨rfl, hb⟩; have HB_u103 := Kp.mk (HBz.out.step hb); have HX_u103 := Kp.mk (HXz.out.step hb); have HS_u103 := Kp.mk (HSz.out.step hb); have HE_u103 := Kp.mk (HEz.out.step hb); have kHX0_u103 := HX_u103.out.c0; have kHX1_u103 := HX_u103.out.c1; have kHX2_u103 := HX_u103.out.c2; have kx0_u103 : u103.cell? ⟨ge, 2, none⟩ = some (.int .i64 8) := HE_u103.out.v_at 2 _ rfl; clear hb)
            | (go_at_call 19; (with_reducible show Calls _ _ _ u103 _); refine (vb8.out _).mono ?_; rintro e u104 ⟨rfl, hb⟩; have HB_u104 := Kp.mk (HB_u103.out.step hb); have HX_u104 := Kp.mk (HX_u103.out.step hb); have HS_u104 := Kp.mk (HS_u103.out.step hb); have HE_u104 := Kp.mk (HE_u103.out.step hb); have kHX0_u104 := HX_u104.out.c0; have kHX1_u104 := HX_u104.out.c1; have kHX2_u104 := HX_u104.out.c2; have kx0_u104 : u104.cell? ⟨ge, 2, none⟩ = some (.int .i64 8) := HE_u104.out.v_at 2 _ rfl; clear hb))
        have HB := HB_u104
        have HX := HX_u104
        have HS := HS_u104
        have HE := HE_u104
        clear kx0
        have kHX0 := HX.out.c0
        have kHX1 := HX.out.c1
        have kHX2 := HX.out.c2
        go_wp2_with fail
        go_roundw
        case rel =>
          first
            | exact ⟨3, by omega, rfl, Kp.mk ⟨_, _, _, HX.out⟩, HS, HE⟩
            | ((repeat apply Exists.intro); exact ⟨⟨3, by omega, rfl, Kp.mk ⟨_, _, _, HX.out⟩, HS, HE⟩, rfl⟩)
        case measure => simp [intOf]
      · clear hlt hk
        have cs : wr.cell? ⟨gs, 3, none⟩ = some (.string ⟨#[50, 48, 48, 49, 45, 50, 45, 48, 51]⟩) := HS.out.v_at 3 _ rfl
        go_wp2_with fail
        refine (p3.out _ HB.out.below).mono ?_
        rintro e u101 ⟨rfl, hbl⟩
        have HB := Kp.mk (HB.out.step hbl)
        have HX := Kp.mk (HX.out.step hbl)
        have HS := Kp.mk (HS.out.step hbl)
        have HE := Kp.mk (HE.out.step hbl)
        clear hbl
        have kHX0 := HX.out.c0
        have kHX1 := HX.out.c1
        have kHX2 := HX.out.c2
        have kf0 := HX.out.f0
        have kf1 := HX.out.f1
        have kf2 := HX.out.f2
        clear cs
        go_upto_region 26 with fail
        clear kHX0 kHX1 kHX2
        clear kf0 kf1 kf2
        rw [show ((u101.setCell ⟨g1, 0, none⟩ (.int .i64 0)).setCell ⟨g1, 1, none⟩ (.int .i64 0)).setCell ⟨g1, 2, none⟩ (.int .i64 0) = World.set3 u101 g1 0 0 0 from rfl]
        have HB := Kp.mk (Bl.mk (below_set3 HB.out.below hgHX.out 0 0 0))
        have HS := Kp.mk (HS.out.other (by have := hnHXHS.out; omega) hgHX.out 0 0 0)
        have HE := Kp.mk (HE.out.other (by have := hnHXHE.out; omega) hgHX.out 0 0 0)
        have HX := Kp.mk (HX.out.set hgHX.out 0 0 0)
        generalize World.set3 u101 g1 0 0 0 = u102 at *
        have kHX0 := HX.out.c0
        have kHX1 := HX.out.c1
        have kHX2 := HX.out.c2
        go_upto_region 26 with fail
        have kx0 : u102.cell? ⟨ge, 3, none⟩ = some (.int .i64 5) := HE.out.v_at 3 _ rfl
        have hbl := (Below.refl u102.heap.size u102).drew
        have HBz := Kp.mk (HB.out.step hbl)
        have HXz := Kp.mk (HX.out.step hbl)
        have HSz := Kp.mk (HS.out.step hbl)
        have HEz := Kp.mk (HE.out.step hbl)
        clear hbl
        go_region_held3 (fun w' => w'.cell? ⟨g1, 0, none⟩ = some (.int .i64 0) ∧ w'.cell? ⟨g1, 1, none⟩ = some (.int .i64 0) ∧ w'.cell? ⟨g1, 2, none⟩ = some (.int .i64 0) ∧ w'.cell? ⟨ge, 3, none⟩ = some (.int .i64 5)) (first | go_keep | exact ⟨kHX0_u103, kHX1_u103, kHX2_u103, kx0_u103⟩ | exact ⟨kHX0_u104, kHX1_u104, kHX2_u104, kx0_u104⟩)
          (first
            | (go_at_call 23; (with_reducible show Calls _ _ _ u102.drew _); refine (c9.out _).mono ?_; rintro e u103 ⟨rfl, hb⟩; have HB_u103 := Kp.mk (HBz.out.step hb); have HX_u103 := Kp.mk (HXz.out.step hb); have HS_u103 := Kp.mk (HSz.out.step hb); have HE_u103 := Kp.mk (HEz.out.step hb); have kHX0_u103 := HX_u103.out.c0; have kHX1_u103 := HX_u103.out.c1; have kHX2_u103 := HX_u103.out.c2; have kx0_u103 : u103.cell? ⟨ge, 3, none⟩ = some (.int .i64 5) := HE_u103.out.v_at 3 _ rfl; clear hb)
            | (go_at_call 19; (with_reducible show Calls _ _ _ u103 _); refine (vb5.out _).mono ?_; rintro e u104 ⟨rfl, hb⟩; have HB_u104 := Kp.mk (HB_u103.out.step hb); have HX_u104 := Kp.mk (HX_u103.out.step hb); have HS_u104 := Kp.mk (HS_u103.out.step hb); have HE_u104 := Kp.mk (HE_u103.out.step hb); have kHX0_u104 := HX_u104.out.c0; have kHX1_u104 := HX_u104.out.c1; have kHX2_u104 := HX_u104.out.c2; have kx0_u104 : u104.cell? ⟨ge, 3, none⟩ = some (.int .i64 5) := HE_u104.out.v_at 3 _ rfl; clear hb))
        have HB := HB_u104
        have HX := HX_u104
        have HS := HS_u104
        have HE := HE_u104
        clear kx0
        have kHX0 := HX.out.c0
        have kHX1 := HX.out.c1
        have kHX2 := HX.out.c2
        go_wp2_with fail
        go_roundw
        case rel =>
          first
            | exact ⟨4, by omega, rfl, Kp.mk ⟨_, _, _, HX.out⟩, HS, HE⟩
            | ((repeat apply Exists.intro); exact ⟨⟨4, by omega, rfl, Kp.mk ⟨_, _, _, HX.out⟩, HS, HE⟩, rfl⟩)
        case measure => simp [intOf]
    · obtain rfl : k = 4 := by omega
      go_wp2_with fail
      go_ret
      exact ⟨rfl, HB.out.below⟩
end Go.Proofs.YtoafigehcgledaaGreatDoor
