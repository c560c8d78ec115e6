/-
  DERIVED. The examples of chapter 8, given the contracts of package ends. Written by mken4.py.
-/
import Derived.Test.YtbnlomjlapnoaaaDoorEnCore
import Derived.Test.YtbnlomjlapnoaaaDoorEnVals
namespace Go.Proofs.YtbnlomjlapnoaaaDoor
open Go.RowKit
set_option maxRecDepth 100000

set_option maxHeartbeats 8000000 in
theorem lives_of {I : World → Prop} (C : EndCore I) (w : World) (hI : I w) :
    Calls Tryd.prog 12 #[] w fun e w' => e = .returned (.bool true) ∧ Below w.heap.size w w' := by
  have HL := Kp.mk (eb_two w (-1) 0 1 0).1
  have HH := Kp.mk (eb_two w (-1) 0 1 0).2
  have HB := Kp.mk (Bl.mk HL.out.below)
  have HI := Kp.mk (fun (v : World) (h : Below w.heap.size w v) => C.keep hI h)
  clear hI
  have ox := Kp.mk (fun v (hw : Below w.heap.size w v) => C.of (d := 9223372036854775807) v (HI.out v hw) (by decide) (by decide))
  have on := Kp.mk (fun v (hw : Below w.heap.size w v) => C.of (d := -9223372036854775808) v (HI.out v hw) (by decide) (by decide))
  have o3 := Kp.mk (fun v (hw : Below w.heap.size w v) => C.of (d := 3) v (HI.out v hw) (by decide) (by decide))
  have o5 := Kp.mk (fun v (hw : Below w.heap.size w v) => C.of (d := 5) v (HI.out v hw) (by decide) (by decide))
  have o6 := Kp.mk (fun v (hw : Below w.heap.size w v) => C.of (d := 6) v (HI.out v hw) (by decide) (by decide))
  have o4 := Kp.mk (fun v (hw : Below w.heap.size w v) => C.of (d := 4) v (HI.out v hw) (by decide) (by decide))
  have o7 := Kp.mk (fun v (hw : Below w.heap.size w v) => C.of (d := -7) v (HI.out v hw) (by decide) (by decide))
  have c1 := Kp.mk (fun v (hw : Below w.heap.size w v) => C.cmp (f := -1) (d := 0) (g := 0) (e := -9223372036854775808) (v := -1) v (HI.out v hw) (by decide) (by decide) (by decide) (by decide) (by decide))
  have c2 := Kp.mk (fun v (hw : Below w.heap.size w v) => C.cmp (f := 1) (d := 0) (g := 0) (e := 9223372036854775807) (v := 1) v (HI.out v hw) (by decide) (by decide) (by decide) (by decide) (by decide))
  have c3 := Kp.mk (fun v (hw : Below w.heap.size w v) => C.cmp (f := 0) (d := 3) (g := 0) (e := 3) (v := 0) v (HI.out v hw) (by decide) (by decide) (by decide) (by decide) (by decide))
  have n1 := Kp.mk (fun v (hw : Below w.heap.size w v) => C.next v (HI.out v hw) (by decide) (by decide) step_5)
  have n2 := Kp.mk (fun v (hw : Below w.heap.size w v) => C.next v (HI.out v hw) (by decide) (by decide) (step_inf true))
  have n3 := Kp.mk (fun v (hw : Below w.heap.size w v) => C.next v (HI.out v hw) (by decide) (by decide) step_max)
  have n4 := Kp.mk (fun v (hw : Below w.heap.size w v) => C.prev v (HI.out v hw) (by decide) (by decide) step_min)
  have g1 := Kp.mk (fun w => gives_ok 0 6 w)
  have g2 := Kp.mk (fun w => gives_ok 1 0 w)
  have g3 := Kp.mk (fun w => gives_bad (c := 15) (by decide) 0 6 w)
  have g4 := Kp.mk (fun w => gives_bad (c := 5) (by decide) (-1) 0 w)
  have g5 := Kp.mk (fun w => gives_bad (c := 15) (by decide) (-1) 0 w)
  have m1 := Kp.mk (fun v (hw : Below w.heap.size w v) => C.min_le (f := -1) (d := 0) (g := 0) (e := 3) v (HI.out v hw) (by decide) (by decide) (by decide) (by decide) (by decide))
  have m2 := Kp.mk (fun v (hw : Below w.heap.size w v) => C.max_le (f := 0) (d := 4) (g := 1) (e := 0) v (HI.out v hw) (by decide) (by decide) (by decide) (by decide) (by decide))
  have t1 := Kp.mk (fun v (hw : Below w.heap.size w v) => C.text_in (f := 0) (d := -7) v (HI.out v hw) (by decide) (by decide) (by decide))
  have t2 := Kp.mk (fun v (hw : Below w.heap.size w v) => C.text_in (f := -1) (d := 0) v (HI.out v hw) (by decide) (by decide) (by decide))
  rw [text_7] at t1
  rw [text_low] at t2
  have p1 := Kp.mk (fun v (hw : Below w.heap.size w v) => C.parse v (HI.out v hw) (by decide) par_inf)
  have p2 := Kp.mk (fun v (hw : Below w.heap.size w v) => C.parse v (HI.out v hw) (by decide) par_plus)
  have p3 := Kp.mk (fun v (hw : Below w.heap.size w v) => C.parse v (HI.out v hw) (by decide) par_big)
  have k1 := Kp.mk (fun v (hw : Below w.heap.size w v) => C.check (f := 2) (d := 0) (c := 5) v (HI.out v hw) (by decide) (by decide) (by decide))
  have k2 := Kp.mk (fun v (hw : Below w.heap.size w v) => C.check (f := 1) (d := 5) (c := 5) v (HI.out v hw) (by decide) (by decide) (by decide))
  have z1 : (bs [45, 55]).toList = [45, 55] := by decide +kernel
  have z2 : (bs [45, 105, 110, 102]).toList = [45, 105, 110, 102] := by decide +kernel
  clear C
  go_enter Tryd.func12, Tryd.ntmps12
  go_upto_region 2 with fail
  generalize ((w.alloc (.cells #[.int .i8 (-1), .int .i64 0] 24)).alloc (.cells #[.int .i8 1, .int .i64 0] 24)) = w0 at *
  have kHL0 := HL.out.c0
  have kHL1 := HL.out.c1
  have kHH0 := HH.out.c0
  have kHH1 := HH.out.c1
  go_wp2_with fail
  refine (ox.out _ HB.out.below).mono ?_
  rintro e u1 ⟨rfl, hbl⟩
  clear kHL0 kHL1 kHH0 kHH1
  have HB := Kp.mk (HB.out.step hbl)
  have HL := Kp.mk (HL.out.step hbl)
  have HH := Kp.mk (HH.out.step hbl)
  clear hbl
  have kHL0 := HL.out.c0
  have kHL1 := HL.out.c1
  have kHH0 := HH.out.c0
  have kHH1 := HH.out.c1
  go_wp2_with fail
  refine (on.out _ HB.out.below).mono ?_
  rintro e u2 ⟨rfl, hbl⟩
  clear kHL0 kHL1 kHH0 kHH1
  have HB := Kp.mk (HB.out.step hbl)
  have HL := Kp.mk (HL.out.step hbl)
  have HH := Kp.mk (HH.out.step hbl)
  clear hbl
  have kHL0 := HL.out.c0
  have kHL1 := HL.out.c1
  have kHH0 := HH.out.c0
  have kHH1 := HH.out.c1
  go_upto_region 3 with fail
  clear kHL0 kHL1 kHH0 kHH1
  have HM := Kp.mk (eb_new 0 9223372036854775807 24 HB.out.below)
  have hx := eb_new 0 (-9223372036854775808) 24 HM.out.below
  rw [World.size_alloc] at hx
  have HN := Kp.mk hx
  clear hx
  have HM := Kp.mk (HM.out.step ((Below.refl (u2.alloc (.cells #[.int .i8 0, .int .i64 9223372036854775807] 24)).heap.size _).alloc (Nat.le_refl _) (.cells #[.int .i8 0, .int .i64 (-9223372036854775808)] 24)))
  have hbl := ((Below.refl u2.heap.size u2).alloc (Nat.le_refl _) (.cells #[.int .i8 0, .int .i64 9223372036854775807] 24)).alloc (by simp) (.cells #[.int .i8 0, .int .i64 (-9223372036854775808)] 24)
  have HB := Kp.mk (HB.out.step hbl)
  have HL := Kp.mk (HL.out.step hbl)
  have HH := Kp.mk (HH.out.step hbl)
  clear hbl
  generalize (u2.alloc (.cells #[.int .i8 0, .int .i64 9223372036854775807] 24)).alloc (.cells #[.int .i8 0, .int .i64 (-9223372036854775808)] 24) = u3 at *
  generalize u2.heap.size = b1 at *
  have kHL0 := HL.out.c0
  have kHL1 := HL.out.c1
  have kHH0 := HH.out.c0
  have kHH1 := HH.out.c1
  have kHM0 := HM.out.c0
  have kHM1 := HM.out.c1
  have kHN0 := HN.out.c0
  have kHN1 := HN.out.c1
  go_wp2_with fail
  refine (c1.out _ HB.out.below).mono ?_
  rintro e u4 ⟨rfl, hbl⟩
  clear kHL0 kHL1 kHH0 kHH1 kHM0 kHM1 kHN0 kHN1
  have HB := Kp.mk (HB.out.step hbl)
  have HL := Kp.mk (HL.out.step hbl)
  have HH := Kp.mk (HH.out.step hbl)
  have HM := Kp.mk (HM.out.step hbl)
  have HN := Kp.mk (HN.out.step hbl)
  clear hbl
  have kHL0 := HL.out.c0
  have kHL1 := HL.out.c1
  have kHH0 := HH.out.c0
  have kHH1 := HH.out.c1
  have kHM0 := HM.out.c0
  have kHM1 := HM.out.c1
  have kHN0 := HN.out.c0
  have kHN1 := HN.out.c1
  go_wp2_with fail
  refine (c2.out _ HB.out.below).mono ?_
  rintro e u5 ⟨rfl, hbl⟩
  clear kHL0 kHL1 kHH0 kHH1 kHM0 kHM1 kHN0 kHN1
  have HB := Kp.mk (HB.out.step hbl)
  have HL := Kp.mk (HL.out.step hbl)
  have HH := Kp.mk (HH.out.step hbl)
  have HM := Kp.mk (HM.out.step hbl)
  have HN := Kp.mk (HN.out.step hbl)
  clear hbl
  have kHL0 := HL.out.c0
  have kHL1 := HL.out.c1
  have kHH0 := HH.out.c0
  have kHH1 := HH.out.c1
  have kHM0 := HM.out.c0
  have kHM1 := HM.out.c1
  have kHN0 := HN.out.c0
  have kHN1 := HN.out.c1
  go_wp2_with fail
  refine (o3.out _ HB.out.below).mono ?_
  rintro e u6 ⟨rfl, hbl⟩
  clear kHL0 kHL1 kHH0 kHH1 kHM0 kHM1 kHN0 kHN1
  have HB := Kp.mk (HB.out.step hbl)
  have HL := Kp.mk (HL.out.step hbl)
  have HH := Kp.mk (HH.out.step hbl)
  have HM := Kp.mk (HM.out.step hbl)
  have HN := Kp.mk (HN.out.step hbl)
  clear hbl
  have kHL0 := HL.out.c0
  have kHL1 := HL.out.c1
  have kHH0 := HH.out.c0
  have kHH1 := HH.out.c1
  have kHM0 := HM.out.c0
  have kHM1 := HM.out.c1
  have kHN0 := HN.out.c0
  have kHN1 := HN.out.c1
  go_wp2_with fail
  refine (o3.out _ HB.out.below).mono ?_
  rintro e u7 ⟨rfl, hbl⟩
  clear kHL0 kHL1 kHH0 kHH1 kHM0 kHM1 kHN0 kHN1
  have HB := Kp.mk (HB.out.step hbl)
  have HL := Kp.mk (HL.out.step hbl)
  have HH := Kp.mk (HH.out.step hbl)
  have HM := Kp.mk (HM.out.step hbl)
  have HN := Kp.mk (HN.out.step hbl)
  clear hbl
  have kHL0 := HL.out.c0
  have kHL1 := HL.out.c1
  have kHH0 := HH.out.c0
  have kHH1 := HH.out.c1
  have kHM0 := HM.out.c0
  have kHM1 := HM.out.c1
  have kHN0 := HN.out.c0
  have kHN1 := HN.out.c1
  go_wp2_with fail
  refine (c3.out _ HB.out.below).mono ?_
  rintro e u8 ⟨rfl, hbl⟩
  clear kHL0 kHL1 kHH0 kHH1 kHM0 kHM1 kHN0 kHN1
  have HB := Kp.mk (HB.out.step hbl)
  have HL := Kp.mk (HL.out.step hbl)
  have HH := Kp.mk (HH.out.step hbl)
  have HM := Kp.mk (HM.out.step hbl)
  have HN := Kp.mk (HN.out.step hbl)
  clear hbl
  have kHL0 := HL.out.c0
  have kHL1 := HL.out.c1
  have kHH0 := HH.out.c0
  have kHH1 := HH.out.c1
  have kHM0 := HM.out.c0
  have kHM1 := HM.out.c1
  have kHN0 := HN.out.c0
  have kHN1 := HN.out.c1
  go_wp2_with fail
  refine (o5.out _ HB.out.below).mono ?_
  rintro e u9 ⟨rfl, hbl⟩
  clear kHL0 kHL1 kHH0 kHH1 kHM0 kHM1 kHN0 kHN1
  have HB := Kp.mk (HB.out.step hbl)
  have HL := Kp.mk (HL.out.step hbl)
  have HH := Kp.mk (HH.out.step hbl)
  have HM := Kp.mk (HM.out.step hbl)
  have HN := Kp.mk (HN.out.step hbl)
  clear hbl
  have kHL0 := HL.out.c0
  have kHL1 := HL.out.c1
  have kHH0 := HH.out.c0
  have kHH1 := HH.out.c1
  have kHM0 := HM.out.c0
  have kHM1 := HM.out.c1
  have kHN0 := HN.out.c0
  have kHN1 := HN.out.c1
  go_wp2_with fail
  refine (n1.out _ HB.out.below).mono ?_
  rintro e u10 ⟨rfl, hbl⟩
  clear kHL0 kHL1 kHH0 kHH1 kHM0 kHM1 kHN0 kHN1
  have HB := Kp.mk (HB.out.step hbl)
  have HL := Kp.mk (HL.out.step hbl)
  have HH := Kp.mk (HH.out.step hbl)
  have HM := Kp.mk (HM.out.step hbl)
  have HN := Kp.mk (HN.out.step hbl)
  clear hbl
  have kHL0 := HL.out.c0
  have kHL1 := HL.out.c1
  have kHH0 := HH.out.c0
  have kHH1 := HH.out.c1
  have kHM0 := HM.out.c0
  have kHM1 := HM.out.c1
  have kHN0 := HN.out.c0
  have kHN1 := HN.out.c1
  go_upto_region 6 with fail
  clear kHL0 kHL1 kHH0 kHH1 kHM0 kHM1 kHN0 kHN1
  have HA := Kp.mk (eb_new 0 6 24 HB.out.below)
  have hbl := (Below.refl u10.heap.size u10).alloc (Nat.le_refl _) (.cells #[.int .i8 0, .int .i64 6] 24)
  have HB := Kp.mk (HB.out.step hbl)
  have HL := Kp.mk (HL.out.step hbl)
  have HH := Kp.mk (HH.out.step hbl)
  have HM := Kp.mk (HM.out.step hbl)
  have HN := Kp.mk (HN.out.step hbl)
  clear hbl
  generalize u10.alloc (.cells #[.int .i8 0, .int .i64 6] 24) = u11 at *
  generalize u10.heap.size = b2 at *
  have kHL0 := HL.out.c0
  have kHL1 := HL.out.c1
  have kHH0 := HH.out.c0
  have kHH1 := HH.out.c1
  have kHM0 := HM.out.c0
  have kHM1 := HM.out.c1
  have kHN0 := HN.out.c0
  have kHN1 := HN.out.c1
  have kHA0 := HA.out.c0
  have kHA1 := HA.out.c1
  go_wp2_with fail
  refine (n2.out _ HB.out.below).mono ?_
  rintro e u12 ⟨rfl, hbl⟩
  clear kHL0 kHL1 kHH0 kHH1 kHM0 kHM1 kHN0 kHN1 kHA0 kHA1
  have HB := Kp.mk (HB.out.step hbl)
  have HL := Kp.mk (HL.out.step hbl)
  have HH := Kp.mk (HH.out.step hbl)
  have HM := Kp.mk (HM.out.step hbl)
  have HN := Kp.mk (HN.out.step hbl)
  have HA := Kp.mk (HA.out.step hbl)
  clear hbl
  have kHL0 := HL.out.c0
  have kHL1 := HL.out.c1
  have kHH0 := HH.out.c0
  have kHH1 := HH.out.c1
  have kHM0 := HM.out.c0
  have kHM1 := HM.out.c1
  have kHN0 := HN.out.c0
  have kHN1 := HN.out.c1
  have kHA0 := HA.out.c0
  have kHA1 := HA.out.c1
  go_upto_region 7 with fail
  clear kHL0 kHL1 kHH0 kHH1 kHM0 kHM1 kHN0 kHN1 kHA0 kHA1
  have HC := Kp.mk (eb_new 1 0 24 HB.out.below)
  have hbl := (Below.refl u12.heap.size u12).alloc (Nat.le_refl _) (.cells #[.int .i8 1, .int .i64 0] 24)
  have HB := Kp.mk (HB.out.step hbl)
  have HL := Kp.mk (HL.out.step hbl)
  have HH := Kp.mk (HH.out.step hbl)
  have HM := Kp.mk (HM.out.step hbl)
  have HN := Kp.mk (HN.out.step hbl)
  have HA := Kp.mk (HA.out.step hbl)
  clear hbl
  generalize u12.alloc (.cells #[.int .i8 1, .int .i64 0] 24) = u13 at *
  generalize u12.heap.size = b3 at *
  have kHL0 := HL.out.c0
  have kHL1 := HL.out.c1
  have kHH0 := HH.out.c0
  have kHH1 := HH.out.c1
  have kHM0 := HM.out.c0
  have kHM1 := HM.out.c1
  have kHN0 := HN.out.c0
  have kHN1 := HN.out.c1
  have kHA0 := HA.out.c0
  have kHA1 := HA.out.c1
  have kHC0 := HC.out.c0
  have kHC1 := HC.out.c1
  go_wp2_with fail
  refine (n3.out _ HB.out.below).mono ?_
  rintro e u14 ⟨rfl, hbl⟩
  clear kHL0 kHL1 kHH0 kHH1 kHM0 kHM1 kHN0 kHN1 kHA0 kHA1 kHC0 kHC1
  have HB := Kp.mk (HB.out.step hbl)
  have HL := Kp.mk (HL.out.step hbl)
  have HH := Kp.mk (HH.out.step hbl)
  have HM := Kp.mk (HM.out.step hbl)
  have HN := Kp.mk (HN.out.step hbl)
  have HA := Kp.mk (HA.out.step hbl)
  have HC := Kp.mk (HC.out.step hbl)
  clear hbl
  have kHL0 := HL.out.c0
  have kHL1 := HL.out.c1
  have kHH0 := HH.out.c0
  have kHH1 := HH.out.c1
  have kHM0 := HM.out.c0
  have kHM1 := HM.out.c1
  have kHN0 := HN.out.c0
  have kHN1 := HN.out.c1
  have kHA0 := HA.out.c0
  have kHA1 := HA.out.c1
  have kHC0 := HC.out.c0
  have kHC1 := HC.out.c1
  go_upto_region 8 with fail
  clear kHL0 kHL1 kHH0 kHH1 kHM0 kHM1 kHN0 kHN1 kHA0 kHA1 kHC0 kHC1
  have HD := Kp.mk (eb_new 0 0 24 HB.out.below)
  have hbl := (Below.refl u14.heap.size u14).alloc (Nat.le_refl _) (.cells #[.int .i8 0, .int .i64 0] 24)
  have HB := Kp.mk (HB.out.step hbl)
  have HL := Kp.mk (HL.out.step hbl)
  have HH := Kp.mk (HH.out.step hbl)
  have HM := Kp.mk (HM.out.step hbl)
  have HN := Kp.mk (HN.out.step hbl)
  have HA := Kp.mk (HA.out.step hbl)
  have HC := Kp.mk (HC.out.step hbl)
  clear hbl
  generalize u14.alloc (.cells #[.int .i8 0, .int .i64 0] 24) = u15 at *
  generalize u14.heap.size = b4 at *
  have kHL0 := HL.out.c0
  have kHL1 := HL.out.c1
  have kHH0 := HH.out.c0
  have kHH1 := HH.out.c1
  have kHM0 := HM.out.c0
  have kHM1 := HM.out.c1
  have kHN0 := HN.out.c0
  have kHN1 := HN.out.c1
  have kHA0 := HA.out.c0
  have kHA1 := HA.out.c1
  have kHC0 := HC.out.c0
  have kHC1 := HC.out.c1
  have kHD0 := HD.out.c0
  have kHD1 := HD.out.c1
  go_wp2_with fail
  refine (n4.out _ HB.out.below).mono ?_
  rintro e u16 ⟨rfl, hbl⟩
  clear kHL0 kHL1 kHH0 kHH1 kHM0 kHM1 kHN0 kHN1 kHA0 kHA1 kHC0 kHC1 kHD0 kHD1
  have HB := Kp.mk (HB.out.step hbl)
  have HL := Kp.mk (HL.out.step hbl)
  have HH := Kp.mk (HH.out.step hbl)
  have HM := Kp.mk (HM.out.step hbl)
  have HN := Kp.mk (HN.out.step hbl)
  have HA := Kp.mk (HA.out.step hbl)
  have HC := Kp.mk (HC.out.step hbl)
  have HD := Kp.mk (HD.out.step hbl)
  clear hbl
  have kHL0 := HL.out.c0
  have kHL1 := HL.out.c1
  have kHH0 := HH.out.c0
  have kHH1 := HH.out.c1
  have kHM0 := HM.out.c0
  have kHM1 := HM.out.c1
  have kHN0 := HN.out.c0
  have kHN1 := HN.out.c1
  have kHA0 := HA.out.c0
  have kHA1 := HA.out.c1
  have kHC0 := HC.out.c0
  have kHC1 := HC.out.c1
  have kHD0 := HD.out.c0
  have kHD1 := HD.out.c1
  go_upto_region 9 with fail
  clear kHL0 kHL1 kHH0 kHH1 kHM0 kHM1 kHN0 kHN1 kHA0 kHA1 kHC0 kHC1 kHD0 kHD1
  have HE := Kp.mk (eb_new 0 0 24 HB.out.below)
  have hbl := (Below.refl u16.heap.size u16).alloc (Nat.le_refl _) (.cells #[.int .i8 0, .int .i64 0] 24)
  have HB := Kp.mk (HB.out.step hbl)
  have HL := Kp.mk (HL.out.step hbl)
  have HH := Kp.mk (HH.out.step hbl)
  have HM := Kp.mk (HM.out.step hbl)
  have HN := Kp.mk (HN.out.step hbl)
  have HA := Kp.mk (HA.out.step hbl)
  have HC := Kp.mk (HC.out.step hbl)
  have HD := Kp.mk (HD.out.step hbl)
  clear hbl
  generalize u16.alloc (.cells #[.int .i8 0, .int .i64 0] 24) = u17 at *
  generalize u16.heap.size = b5 at *
  have kHL0 := HL.out.c0
  have kHL1 := HL.out.c1
  have kHH0 := HH.out.c0
  have kHH1 := HH.out.c1
  have kHM0 := HM.out.c0
  have kHM1 := HM.out.c1
  have kHN0 := HN.out.c0
  have kHN1 := HN.out.c1
  have kHA0 := HA.out.c0
  have kHA1 := HA.out.c1
  have kHC0 := HC.out.c0
  have kHC1 := HC.out.c1
  have kHD0 := HD.out.c0
  have kHD1 := HD.out.c1
  have kHE0 := HE.out.c0
  have kHE1 := HE.out.c1
  have hbl := (Below.refl u17.heap.size u17).drew
  have HBz := Kp.mk (HB.out.step hbl)
  have HLz := Kp.mk (HL.out.step hbl)
  have HHz := Kp.mk (HH.out.step hbl)
  have HMz := Kp.mk (HM.out.step hbl)
  have HNz := Kp.mk (HN.out.step hbl)
  have HAz := Kp.mk (HA.out.step hbl)
  have HCz := Kp.mk (HC.out.step hbl)
  have HDz := Kp.mk (HD.out.step hbl)
  have HEz := Kp.mk (HE.out.step hbl)
  have kHL0z := HLz.out.c0
  have kHL1z := HLz.out.c1
  have kHH0z := HHz.out.c0
  have kHH1z := HHz.out.c1
  have kHM0z := HMz.out.c0
  have kHM1z := HMz.out.c1
  have kHN0z := HNz.out.c0
  have kHN1z := HNz.out.c1
  have kHA0z := HAz.out.c0
  have kHA1z := HAz.out.c1
  have kHC0z := HCz.out.c0
  have kHC1z := HCz.out.c1
  have kHD0z := HDz.out.c0
  have kHD1z := HDz.out.c1
  have kHE0z := HEz.out.c0
  have kHE1z := HEz.out.c1
  clear hbl
  go_region_held3 (fun w' => w'.cell? ⟨w.heap.size, 0, none⟩ = some (.int .i8 (-1)) ∧ w'.cell? ⟨w.heap.size, 1, none⟩ = some (.int .i64 0) ∧ w'.cell? ⟨w.heap.size + 1, 0, none⟩ = some (.int .i8 1) ∧ w'.cell? ⟨w.heap.size + 1, 1, none⟩ = some (.int .i64 0) ∧ w'.cell? ⟨b1, 0, none⟩ = some (.int .i8 0) ∧ w'.cell? ⟨b1, 1, none⟩ = some (.int .i64 9223372036854775807) ∧ w'.cell? ⟨b1 + 1, 0, none⟩ = some (.int .i8 0) ∧ w'.cell? ⟨b1 + 1, 1, none⟩ = some (.int .i64 (-9223372036854775808)) ∧ w'.cell? ⟨b2, 0, none⟩ = some (.int .i8 0) ∧ w'.cell? ⟨b2, 1, none⟩ = some (.int .i64 6) ∧ w'.cell? ⟨b3, 0, none⟩ = some (.int .i8 1) ∧ w'.cell? ⟨b3, 1, none⟩ = some (.int .i64 0) ∧ w'.cell? ⟨b4, 0, none⟩ = some (.int .i8 0) ∧ w'.cell? ⟨b4, 1, none⟩ = some (.int .i64 0) ∧ w'.cell? ⟨b5, 0, none⟩ = some (.int .i8 0) ∧ w'.cell? ⟨b5, 1, none⟩ = some (.int .i64 0)) (first | (with_reducible exact ⟨kHL0, kHL1, kHH0, kHH1, kHM0, kHM1, kHN0, kHN1, kHA0, kHA1, kHC0, kHC1, kHD0, kHD1, kHE0, kHE1⟩) | (with_reducible exact ⟨kHL0z, kHL1z, kHH0z, kHH1z, kHM0z, kHM1z, kHN0z, kHN1z, kHA0z, kHA1z, kHC0z, kHC1z, kHD0z, kHD1z, kHE0z, kHE1z⟩) | (with_reducible exact ⟨kHL0_u18, kHL1_u18, kHH0_u18, kHH1_u18, kHM0_u18, kHM1_u18, kHN0_u18, kHN1_u18, kHA0_u18, kHA1_u18, kHC0_u18, kHC1_u18, kHD0_u18, kHD1_u18, kHE0_u18, kHE1_u18⟩) | (with_reducible exact ⟨kHL0_u19, kHL1_u19, kHH0_u19, kHH1_u19, kHM0_u19, kHM1_u19, kHN0_u19, kHN1_u19, kHA0_u19, kHA1_u19, kHC0_u19, kHC1_u19, kHD0_u19, kHD1_u19, kHE0_u19, kHE1_u19⟩) | (with_reducible exact ⟨kHL0_u20, kHL1_u20, kHH0_u20, kHH1_u20, kHM0_u20, kHM1_u20, kHN0_u20, kHN1_u20, kHA0_u20, kHA1_u20, kHC0_u20, kHC1_u20, kHD0_u20, kHD1_u20, kHE0_u20, kHE1_u20⟩) | (with_reducible exact ⟨kHL0_u21, kHL1_u21, kHH0_u21, kHH1_u21, kHM0_u21, kHM1_u21, kHN0_u21, kHN1_u21, kHA0_u21, kHA1_u21, kHC0_u21, kHC1_u21, kHD0_u21, kHD1_u21, kHE0_u21, kHE1_u21⟩) | (with_reducible exact ⟨kHL0_u22, kHL1_u22, kHH0_u22, kHH1_u22, kHM0_u22, kHM1_u22, kHN0_u22, kHN1_u22, kHA0_u22, kHA1_u22, kHC0_u22, kHC1_u22, kHD0_u22, kHD1_u22, kHE0_u22, kHE1_u22⟩) | (with_reducible exact ⟨kHL0_u23, kHL1_u23, kHH0_u23, kHH1_u23, kHM0_u23, kHM1_u23, kHN0_u23, kHN1_u23, kHA0_u23, kHA1_u23, kHC0_u23, kHC1_u23, kHD0_u23, kHD1_u23, kHE0_u23, kHE1_u23⟩) | (with_reducible exact ⟨kHL0_u24, kHL1_u24, kHH0_u24, kHH1_u24, kHM0_u24, kHM1_u24, kHN0_u24, kHN1_u24, kHA0_u24, kHA1_u24, kHC0_u24, kHC1_u24, kHD0_u24, kHD1_u24, kHE0_u24, kHE1_u24⟩) | (with_reducible exact ⟨kHL0_u25, kHL1_u25, kHH0_u25, kHH1_u25, kHM0_u25, kHM1_u25, kHN0_u25, kHN1_u25, kHA0_u25, kHA1_u25, kHC0_u25, kHC1_u25, kHD0_u25, kHD1_u25, kHE0_u25, kHE1_u25⟩) | (with_reducible exact ⟨kHL0_u26, kHL1_u26, kHH0_u26, kHH1_u26, kHM0_u26, kHM1_u26, kHN0_u26, kHN1_u26, kHA0_u26, kHA1_u26, kHC0_u26, kHC1_u26, kHD0_u26, kHD1_u26, kHE0_u26, kHE1_u26⟩) | go_keep)
    (first
      | (go_at_call 20; (with_reducible show Calls _ _ _ u17.drew _); (with_reducible refine (o6.out _ HBz.out.below).mono ?_); rintro e u18 ⟨rfl, hb⟩; have HB_u18 := Kp.mk (HBz.out.step hb); have HL_u18 := Kp.mk (HLz.out.step hb); have HH_u18 := Kp.mk (HHz.out.step hb); have HM_u18 := Kp.mk (HMz.out.step hb); have HN_u18 := Kp.mk (HNz.out.step hb); have HA_u18 := Kp.mk (HAz.out.step hb); have HC_u18 := Kp.mk (HCz.out.step hb); have HD_u18 := Kp.mk (HDz.out.step hb); have HE_u18 := Kp.mk (HEz.out.step hb); have kHL0_u18 := HL_u18.out.c0; have kHL1_u18 := HL_u18.out.c1; have kHH0_u18 := HH_u18.out.c0; have kHH1_u18 := HH_u18.out.c1; have kHM0_u18 := HM_u18.out.c0; have kHM1_u18 := HM_u18.out.c1; have kHN0_u18 := HN_u18.out.c0; have kHN1_u18 := HN_u18.out.c1; have kHA0_u18 := HA_u18.out.c0; have kHA1_u18 := HA_u18.out.c1; have kHC0_u18 := HC_u18.out.c0; have kHC1_u18 := HC_u18.out.c1; have kHD0_u18 := HD_u18.out.c0; have kHD1_u18 := HD_u18.out.c1; have kHE0_u18 := HE_u18.out.c0; have kHE1_u18 := HE_u18.out.c1; clear hb)
      | (go_at_call 19; (with_reducible show Calls _ _ _ u18 _); (with_reducible refine (g1.out _).mono ?_); rintro e u19 ⟨rfl, hb⟩; have HB_u19 := Kp.mk (HB_u18.out.step hb); have HL_u19 := Kp.mk (HL_u18.out.step hb); have HH_u19 := Kp.mk (HH_u18.out.step hb); have HM_u19 := Kp.mk (HM_u18.out.step hb); have HN_u19 := Kp.mk (HN_u18.out.step hb); have HA_u19 := Kp.mk (HA_u18.out.step hb); have HC_u19 := Kp.mk (HC_u18.out.step hb); have HD_u19 := Kp.mk (HD_u18.out.step hb); have HE_u19 := Kp.mk (HE_u18.out.step hb); have kHL0_u19 := HL_u19.out.c0; have kHL1_u19 := HL_u19.out.c1; have kHH0_u19 := HH_u19.out.c0; have kHH1_u19 := HH_u19.out.c1; have kHM0_u19 := HM_u19.out.c0; have kHM1_u19 := HM_u19.out.c1; have kHN0_u19 := HN_u19.out.c0; have kHN1_u19 := HN_u19.out.c1; have kHA0_u19 := HA_u19.out.c0; have kHA1_u19 := HA_u19.out.c1; have kHC0_u19 := HC_u19.out.c0; have kHC1_u19 := HC_u19.out.c1; have kHD0_u19 := HD_u19.out.c0; have kHD1_u19 := HD_u19.out.c1; have kHE0_u19 := HE_u19.out.c0; have kHE1_u19 := HE_u19.out.c1; clear hb)
      | (go_at_call 19; (with_reducible show Calls _ _ _ u19 _); (with_reducible refine (g2.out _).mono ?_); rintro e u20 ⟨rfl, hb⟩; have HB_u20 := Kp.mk (HB_u19.out.step hb); have HL_u20 := Kp.mk (HL_u19.out.step hb); have HH_u20 := Kp.mk (HH_u19.out.step hb); have HM_u20 := Kp.mk (HM_u19.out.step hb); have HN_u20 := Kp.mk (HN_u19.out.step hb); have HA_u20 := Kp.mk (HA_u19.out.step hb); have HC_u20 := Kp.mk (HC_u19.out.step hb); have HD_u20 := Kp.mk (HD_u19.out.step hb); have HE_u20 := Kp.mk (HE_u19.out.step hb); have kHL0_u20 := HL_u20.out.c0; have kHL1_u20 := HL_u20.out.c1; have kHH0_u20 := HH_u20.out.c0; have kHH1_u20 := HH_u20.out.c1; have kHM0_u20 := HM_u20.out.c0; have kHM1_u20 := HM_u20.out.c1; have kHN0_u20 := HN_u20.out.c0; have kHN1_u20 := HN_u20.out.c1; have kHA0_u20 := HA_u20.out.c0; have kHA1_u20 := HA_u20.out.c1; have kHC0_u20 := HC_u20.out.c0; have kHC1_u20 := HC_u20.out.c1; have kHD0_u20 := HD_u20.out.c0; have kHD1_u20 := HD_u20.out.c1; have kHE0_u20 := HE_u20.out.c0; have kHE1_u20 := HE_u20.out.c1; clear hb)
      | (go_at_call 19; (with_reducible show Calls _ _ _ u20 _); (with_reducible refine (g3.out _).mono ?_); rintro e u21 ⟨rfl, hb⟩; have HB_u21 := Kp.mk (HB_u20.out.step hb); have HL_u21 := Kp.mk (HL_u20.out.step hb); have HH_u21 := Kp.mk (HH_u20.out.step hb); have HM_u21 := Kp.mk (HM_u20.out.step hb); have HN_u21 := Kp.mk (HN_u20.out.step hb); have HA_u21 := Kp.mk (HA_u20.out.step hb); have HC_u21 := Kp.mk (HC_u20.out.step hb); have HD_u21 := Kp.mk (HD_u20.out.step hb); have HE_u21 := Kp.mk (HE_u20.out.step hb); have kHL0_u21 := HL_u21.out.c0; have kHL1_u21 := HL_u21.out.c1; have kHH0_u21 := HH_u21.out.c0; have kHH1_u21 := HH_u21.out.c1; have kHM0_u21 := HM_u21.out.c0; have kHM1_u21 := HM_u21.out.c1; have kHN0_u21 := HN_u21.out.c0; have kHN1_u21 := HN_u21.out.c1; have kHA0_u21 := HA_u21.out.c0; have kHA1_u21 := HA_u21.out.c1; have kHC0_u21 := HC_u21.out.c0; have kHC1_u21 := HC_u21.out.c1; have kHD0_u21 := HD_u21.out.c0; have kHD1_u21 := HD_u21.out.c1; have kHE0_u21 := HE_u21.out.c0; have kHE1_u21 := HE_u21.out.c1; clear hb)
      | (go_at_call 19; (with_reducible show Calls _ _ _ u21 _); (with_reducible refine (g3.out _).mono ?_); rintro e u22 ⟨rfl, hb⟩; have HB_u22 := Kp.mk (HB_u21.out.step hb); have HL_u22 := Kp.mk (HL_u21.out.step hb); have HH_u22 := Kp.mk (HH_u21.out.step hb); have HM_u22 := Kp.mk (HM_u21.out.step hb); have HN_u22 := Kp.mk (HN_u21.out.step hb); have HA_u22 := Kp.mk (HA_u21.out.step hb); have HC_u22 := Kp.mk (HC_u21.out.step hb); have HD_u22 := Kp.mk (HD_u21.out.step hb); have HE_u22 := Kp.mk (HE_u21.out.step hb); have kHL0_u22 := HL_u22.out.c0; have kHL1_u22 := HL_u22.out.c1; have kHH0_u22 := HH_u22.out.c0; have kHH1_u22 := HH_u22.out.c1; have kHM0_u22 := HM_u22.out.c0; have kHM1_u22 := HM_u22.out.c1; have kHN0_u22 := HN_u22.out.c0; have kHN1_u22 := HN_u22.out.c1; have kHA0_u22 := HA_u22.out.c0; have kHA1_u22 := HA_u22.out.c1; have kHC0_u22 := HC_u22.out.c0; have kHC1_u22 := HC_u22.out.c1; have kHD0_u22 := HD_u22.out.c0; have kHD1_u22 := HD_u22.out.c1; have kHE0_u22 := HE_u22.out.c0; have kHE1_u22 := HE_u22.out.c1; clear hb)
      | (go_at_call 20; (with_reducible show Calls _ _ _ u22 _); (with_reducible refine (o3.out _ HB_u22.out.below).mono ?_); rintro e u23 ⟨rfl, hb⟩; have HB_u23 := Kp.mk (HB_u22.out.step hb); have HL_u23 := Kp.mk (HL_u22.out.step hb); have HH_u23 := Kp.mk (HH_u22.out.step hb); have HM_u23 := Kp.mk (HM_u22.out.step hb); have HN_u23 := Kp.mk (HN_u22.out.step hb); have HA_u23 := Kp.mk (HA_u22.out.step hb); have HC_u23 := Kp.mk (HC_u22.out.step hb); have HD_u23 := Kp.mk (HD_u22.out.step hb); have HE_u23 := Kp.mk (HE_u22.out.step hb); have kHL0_u23 := HL_u23.out.c0; have kHL1_u23 := HL_u23.out.c1; have kHH0_u23 := HH_u23.out.c0; have kHH1_u23 := HH_u23.out.c1; have kHM0_u23 := HM_u23.out.c0; have kHM1_u23 := HM_u23.out.c1; have kHN0_u23 := HN_u23.out.c0; have kHN1_u23 := HN_u23.out.c1; have kHA0_u23 := HA_u23.out.c0; have kHA1_u23 := HA_u23.out.c1; have kHC0_u23 := HC_u23.out.c0; have kHC1_u23 := HC_u23.out.c1; have kHD0_u23 := HD_u23.out.c0; have kHD1_u23 := HD_u23.out.c1; have kHE0_u23 := HE_u23.out.c0; have kHE1_u23 := HE_u23.out.c1; clear hb)
      | (go_at_call 10; (with_reducible show Calls _ _ _ u23 _); (with_reducible refine (m1.out _ HB_u23.out.below).mono ?_); rintro e u24 ⟨rfl, hb⟩; have HB_u24 := Kp.mk (HB_u23.out.step hb); have HL_u24 := Kp.mk (HL_u23.out.step hb); have HH_u24 := Kp.mk (HH_u23.out.step hb); have HM_u24 := Kp.mk (HM_u23.out.step hb); have HN_u24 := Kp.mk (HN_u23.out.step hb); have HA_u24 := Kp.mk (HA_u23.out.step hb); have HC_u24 := Kp.mk (HC_u23.out.step hb); have HD_u24 := Kp.mk (HD_u23.out.step hb); have HE_u24 := Kp.mk (HE_u23.out.step hb); have kHL0_u24 := HL_u24.out.c0; have kHL1_u24 := HL_u24.out.c1; have kHH0_u24 := HH_u24.out.c0; have kHH1_u24 := HH_u24.out.c1; have kHM0_u24 := HM_u24.out.c0; have kHM1_u24 := HM_u24.out.c1; have kHN0_u24 := HN_u24.out.c0; have kHN1_u24 := HN_u24.out.c1; have kHA0_u24 := HA_u24.out.c0; have kHA1_u24 := HA_u24.out.c1; have kHC0_u24 := HC_u24.out.c0; have kHC1_u24 := HC_u24.out.c1; have kHD0_u24 := HD_u24.out.c0; have kHD1_u24 := HD_u24.out.c1; have kHE0_u24 := HE_u24.out.c0; have kHE1_u24 := HE_u24.out.c1; clear hb)
      | (go_at_call 20; (with_reducible show Calls _ _ _ u24 _); (with_reducible refine (o4.out _ HB_u24.out.below).mono ?_); rintro e u25 ⟨rfl, hb⟩; have HB_u25 := Kp.mk (HB_u24.out.step hb); have HL_u25 := Kp.mk (HL_u24.out.step hb); have HH_u25 := Kp.mk (HH_u24.out.step hb); have HM_u25 := Kp.mk (HM_u24.out.step hb); have HN_u25 := Kp.mk (HN_u24.out.step hb); have HA_u25 := Kp.mk (HA_u24.out.step hb); have HC_u25 := Kp.mk (HC_u24.out.step hb); have HD_u25 := Kp.mk (HD_u24.out.step hb); have HE_u25 := Kp.mk (HE_u24.out.step hb); have kHL0_u25 := HL_u25.out.c0; have kHL1_u25 := HL_u25.out.c1; have kHH0_u25 := HH_u25.out.c0; have kHH1_u25 := HH_u25.out.c1; have kHM0_u25 := HM_u25.out.c0; have kHM1_u25 := HM_u25.out.c1; have kHN0_u25 := HN_u25.out.c0; have kHN1_u25 := HN_u25.out.c1; have kHA0_u25 := HA_u25.out.c0; have kHA1_u25 := HA_u25.out.c1; have kHC0_u25 := HC_u25.out.c0; have kHC1_u25 := HC_u25.out.c1; have kHD0_u25 := HD_u25.out.c0; have kHD1_u25 := HD_u25.out.c1; have kHE0_u25 := HE_u25.out.c0; have kHE1_u25 := HE_u25.out.c1; clear hb)
      | (go_at_call 11; (with_reducible show Calls _ _ _ u25 _); (with_reducible refine (m2.out _ HB_u25.out.below).mono ?_); rintro e u26 ⟨rfl, hb⟩; have HB_u26 := Kp.mk (HB_u25.out.step hb); have HL_u26 := Kp.mk (HL_u25.out.step hb); have HH_u26 := Kp.mk (HH_u25.out.step hb); have HM_u26 := Kp.mk (HM_u25.out.step hb); have HN_u26 := Kp.mk (HN_u25.out.step hb); have HA_u26 := Kp.mk (HA_u25.out.step hb); have HC_u26 := Kp.mk (HC_u25.out.step hb); have HD_u26 := Kp.mk (HD_u25.out.step hb); have HE_u26 := Kp.mk (HE_u25.out.step hb); have kHL0_u26 := HL_u26.out.c0; have kHL1_u26 := HL_u26.out.c1; have kHH0_u26 := HH_u26.out.c0; have kHH1_u26 := HH_u26.out.c1; have kHM0_u26 := HM_u26.out.c0; have kHM1_u26 := HM_u26.out.c1; have kHN0_u26 := HN_u26.out.c0; have kHN1_u26 := HN_u26.out.c1; have kHA0_u26 := HA_u26.out.c0; have kHA1_u26 := HA_u26.out.c1; have kHC0_u26 := HC_u26.out.c0; have kHC1_u26 := HC_u26.out.c1; have kHD0_u26 := HD_u26.out.c0; have kHD1_u26 := HD_u26.out.c1; have kHE0_u26 := HE_u26.out.c0; have kHE1_u26 := HE_u26.out.c1; clear hb))
  have HB := HB_u26
  have HL := HL_u26
  have HH := HH_u26
  have HM := HM_u26
  have HN := HN_u26
  have HA := HA_u26
  have HC := HC_u26
  have HD := HD_u26
  have HE := HE_u26
  have kHL0 := HL.out.c0
  have kHL1 := HL.out.c1
  have kHH0 := HH.out.c0
  have kHH1 := HH.out.c1
  have kHM0 := HM.out.c0
  have kHM1 := HM.out.c1
  have kHN0 := HN.out.c0
  have kHN1 := HN.out.c1
  have kHA0 := HA.out.c0
  have kHA1 := HA.out.c1
  have kHC0 := HC.out.c0
  have kHC1 := HC.out.c1
  have kHD0 := HD.out.c0
  have kHD1 := HD.out.c1
  have kHE0 := HE.out.c0
  have kHE1 := HE.out.c1
  clear kHL0 kHL1 kHH0 kHH1 kHM0 kHM1 kHN0 kHN1 kHA0 kHA1 kHC0 kHC1 kHD0 kHD1 kHE0 kHE1
  clear HA HC HD HE HM HN
  have kHL0 := HL.out.c0
  have kHL1 := HL.out.c1
  have kHH0 := HH.out.c0
  have kHH1 := HH.out.c1
  go_wp2_with fail
  refine (o7.out _ HB.out.below).mono ?_
  rintro e u27 ⟨rfl, hbl⟩
  clear kHL0 kHL1 kHH0 kHH1
  have HB := Kp.mk (HB.out.step hbl)
  have HL := Kp.mk (HL.out.step hbl)
  have HH := Kp.mk (HH.out.step hbl)
  clear hbl
  have kHL0 := HL.out.c0
  have kHL1 := HL.out.c1
  have kHH0 := HH.out.c0
  have kHH1 := HH.out.c1
  go_wp2_with fail
  refine (t1.out _ HB.out.below).mono ?_
  rintro e u28 ⟨rfl, hbl⟩
  clear kHL0 kHL1 kHH0 kHH1
  have HB := Kp.mk (HB.out.step hbl)
  have HL := Kp.mk (HL.out.step hbl)
  have HH := Kp.mk (HH.out.step hbl)
  clear hbl
  have kHL0 := HL.out.c0
  have kHL1 := HL.out.c1
  have kHH0 := HH.out.c0
  have kHH1 := HH.out.c1
  go_wp2_with fail
  refine (t2.out _ HB.out.below).mono ?_
  rintro e u29 ⟨rfl, hbl⟩
  clear kHL0 kHL1 kHH0 kHH1
  have HB := Kp.mk (HB.out.step hbl)
  have HL := Kp.mk (HL.out.step hbl)
  have HH := Kp.mk (HH.out.step hbl)
  clear hbl
  have kHL0 := HL.out.c0
  have kHL1 := HL.out.c1
  have kHH0 := HH.out.c0
  have kHH1 := HH.out.c1
  go_wp2_with fail
  refine (p1.out _ HB.out.below).mono ?_
  rintro e u30 ⟨rfl, hbl⟩
  clear kHL0 kHL1 kHH0 kHH1
  have HB := Kp.mk (HB.out.step hbl)
  have HL := Kp.mk (HL.out.step hbl)
  have HH := Kp.mk (HH.out.step hbl)
  clear hbl
  have kHL0 := HL.out.c0
  have kHL1 := HL.out.c1
  have kHH0 := HH.out.c0
  have kHH1 := HH.out.c1
  go_upto_region 14 with fail
  clear kHL0 kHL1 kHH0 kHH1
  have HP := Kp.mk (eb_new 1 0 24 HB.out.below)
  have hbl := (Below.refl u30.heap.size u30).alloc (Nat.le_refl _) (.cells #[.int .i8 1, .int .i64 0] 24)
  have HB := Kp.mk (HB.out.step hbl)
  have HL := Kp.mk (HL.out.step hbl)
  have HH := Kp.mk (HH.out.step hbl)
  clear hbl
  generalize u30.alloc (.cells #[.int .i8 1, .int .i64 0] 24) = u31 at *
  generalize u30.heap.size = b6 at *
  have kHL0 := HL.out.c0
  have kHL1 := HL.out.c1
  have kHH0 := HH.out.c0
  have kHH1 := HH.out.c1
  have kHP0 := HP.out.c0
  have kHP1 := HP.out.c1
  go_wp2_with fail
  refine (p2.out _ HB.out.below).mono ?_
  rintro e u32 ⟨rfl, hbl⟩
  clear kHL0 kHL1 kHH0 kHH1 kHP0 kHP1
  have HB := Kp.mk (HB.out.step hbl)
  have HL := Kp.mk (HL.out.step hbl)
  have HH := Kp.mk (HH.out.step hbl)
  have HP := Kp.mk (HP.out.step hbl)
  clear hbl
  have kHL0 := HL.out.c0
  have kHL1 := HL.out.c1
  have kHH0 := HH.out.c0
  have kHH1 := HH.out.c1
  have kHP0 := HP.out.c0
  have kHP1 := HP.out.c1
  go_upto_region 15 with fail
  clear kHL0 kHL1 kHH0 kHH1 kHP0 kHP1
  have HQ := Kp.mk (eb_new 0 0 24 HB.out.below)
  have hbl := (Below.refl u32.heap.size u32).alloc (Nat.le_refl _) (.cells #[.int .i8 0, .int .i64 0] 24)
  have HB := Kp.mk (HB.out.step hbl)
  have HL := Kp.mk (HL.out.step hbl)
  have HH := Kp.mk (HH.out.step hbl)
  have HP := Kp.mk (HP.out.step hbl)
  clear hbl
  generalize u32.alloc (.cells #[.int .i8 0, .int .i64 0] 24) = u33 at *
  generalize u32.heap.size = b7 at *
  have kHL0 := HL.out.c0
  have kHL1 := HL.out.c1
  have kHH0 := HH.out.c0
  have kHH1 := HH.out.c1
  have kHP0 := HP.out.c0
  have kHP1 := HP.out.c1
  have kHQ0 := HQ.out.c0
  have kHQ1 := HQ.out.c1
  go_wp2_with fail
  refine (p3.out _ HB.out.below).mono ?_
  rintro e u34 ⟨rfl, hbl⟩
  clear kHL0 kHL1 kHH0 kHH1 kHP0 kHP1 kHQ0 kHQ1
  have HB := Kp.mk (HB.out.step hbl)
  have HL := Kp.mk (HL.out.step hbl)
  have HH := Kp.mk (HH.out.step hbl)
  have HP := Kp.mk (HP.out.step hbl)
  have HQ := Kp.mk (HQ.out.step hbl)
  clear hbl
  have kHL0 := HL.out.c0
  have kHL1 := HL.out.c1
  have kHH0 := HH.out.c0
  have kHH1 := HH.out.c1
  have kHP0 := HP.out.c0
  have kHP1 := HP.out.c1
  have kHQ0 := HQ.out.c0
  have kHQ1 := HQ.out.c1
  go_upto_region 16 with fail
  clear kHL0 kHL1 kHH0 kHH1 kHP0 kHP1 kHQ0 kHQ1
  have HR := Kp.mk (eb_new 0 0 24 HB.out.below)
  have hbl := (Below.refl u34.heap.size u34).alloc (Nat.le_refl _) (.cells #[.int .i8 0, .int .i64 0] 24)
  have HB := Kp.mk (HB.out.step hbl)
  have HL := Kp.mk (HL.out.step hbl)
  have HH := Kp.mk (HH.out.step hbl)
  have HP := Kp.mk (HP.out.step hbl)
  have HQ := Kp.mk (HQ.out.step hbl)
  clear hbl
  generalize u34.alloc (.cells #[.int .i8 0, .int .i64 0] 24) = u35 at *
  generalize u34.heap.size = b8 at *
  have kHL0 := HL.out.c0
  have kHL1 := HL.out.c1
  have kHH0 := HH.out.c0
  have kHH1 := HH.out.c1
  have kHP0 := HP.out.c0
  have kHP1 := HP.out.c1
  have kHQ0 := HQ.out.c0
  have kHQ1 := HQ.out.c1
  have kHR0 := HR.out.c0
  have kHR1 := HR.out.c1
  go_wp2_with fail
  refine (g2.out _).mono ?_
  rintro e u36 ⟨rfl, hbl⟩
  clear kHL0 kHL1 kHH0 kHH1 kHP0 kHP1 kHQ0 kHQ1 kHR0 kHR1
  have HB := Kp.mk (HB.out.step hbl)
  have HL := Kp.mk (HL.out.step hbl)
  have HH := Kp.mk (HH.out.step hbl)
  have HP := Kp.mk (HP.out.step hbl)
  have HQ := Kp.mk (HQ.out.step hbl)
  have HR := Kp.mk (HR.out.step hbl)
  clear hbl
  have kHL0 := HL.out.c0
  have kHL1 := HL.out.c1
  have kHH0 := HH.out.c0
  have kHH1 := HH.out.c1
  have kHP0 := HP.out.c0
  have kHP1 := HP.out.c1
  have kHQ0 := HQ.out.c0
  have kHQ1 := HQ.out.c1
  have kHR0 := HR.out.c0
  have kHR1 := HR.out.c1
  go_wp2_with fail
  refine (g4.out _).mono ?_
  rintro e u37 ⟨rfl, hbl⟩
  clear kHL0 kHL1 kHH0 kHH1 kHP0 kHP1 kHQ0 kHQ1 kHR0 kHR1
  have HB := Kp.mk (HB.out.step hbl)
  have HL := Kp.mk (HL.out.step hbl)
  have HH := Kp.mk (HH.out.step hbl)
  have HP := Kp.mk (HP.out.step hbl)
  have HQ := Kp.mk (HQ.out.step hbl)
  have HR := Kp.mk (HR.out.step hbl)
  clear hbl
  have kHL0 := HL.out.c0
  have kHL1 := HL.out.c1
  have kHH0 := HH.out.c0
  have kHH1 := HH.out.c1
  have kHP0 := HP.out.c0
  have kHP1 := HP.out.c1
  have kHQ0 := HQ.out.c0
  have kHQ1 := HQ.out.c1
  have kHR0 := HR.out.c0
  have kHR1 := HR.out.c1
  go_wp2_with fail
  refine (g5.out _).mono ?_
  rintro e u38 ⟨rfl, hbl⟩
  clear kHL0 kHL1 kHH0 kHH1 kHP0 kHP1 kHQ0 kHQ1 kHR0 kHR1
  have HB := Kp.mk (HB.out.step hbl)
  have HL := Kp.mk (HL.out.step hbl)
  have HH := Kp.mk (HH.out.step hbl)
  have HP := Kp.mk (HP.out.step hbl)
  have HQ := Kp.mk (HQ.out.step hbl)
  have HR := Kp.mk (HR.out.step hbl)
  clear hbl
  have kHL0 := HL.out.c0
  have kHL1 := HL.out.c1
  have kHH0 := HH.out.c0
  have kHH1 := HH.out.c1
  have kHP0 := HP.out.c0
  have kHP1 := HP.out.c1
  have kHQ0 := HQ.out.c0
  have kHQ1 := HQ.out.c1
  have kHR0 := HR.out.c0
  have kHR1 := HR.out.c1
  go_wp2_with fail
  refine (k1.out _ HB.out.below).mono ?_
  rintro e u39 ⟨rfl, hbl⟩
  clear kHL0 kHL1 kHH0 kHH1 kHP0 kHP1 kHQ0 kHQ1 kHR0 kHR1
  have HB := Kp.mk (HB.out.step hbl)
  have HL := Kp.mk (HL.out.step hbl)
  have HH := Kp.mk (HH.out.step hbl)
  have HP := Kp.mk (HP.out.step hbl)
  have HQ := Kp.mk (HQ.out.step hbl)
  have HR := Kp.mk (HR.out.step hbl)
  clear hbl
  have kHL0 := HL.out.c0
  have kHL1 := HL.out.c1
  have kHH0 := HH.out.c0
  have kHH1 := HH.out.c1
  have kHP0 := HP.out.c0
  have kHP1 := HP.out.c1
  have kHQ0 := HQ.out.c0
  have kHQ1 := HQ.out.c1
  have kHR0 := HR.out.c0
  have kHR1 := HR.out.c1
  go_wp2_with fail
  refine (k2.out _ HB.out.below).mono ?_
  rintro e u40 ⟨rfl, hbl⟩
  clear kHL0 kHL1 kHH0 kHH1 kHP0 kHP1 kHQ0 kHQ1 kHR0 kHR1
  have HB := Kp.mk (HB.out.step hbl)
  have HL := Kp.mk (HL.out.step hbl)
  have HH := Kp.mk (HH.out.step hbl)
  have HP := Kp.mk (HP.out.step hbl)
  have HQ := Kp.mk (HQ.out.step hbl)
  have HR := Kp.mk (HR.out.step hbl)
  clear hbl
  have kHL0 := HL.out.c0
  have kHL1 := HL.out.c1
  have kHH0 := HH.out.c0
  have kHH1 := HH.out.c1
  have kHP0 := HP.out.c0
  have kHP1 := HP.out.c1
  have kHQ0 := HQ.out.c0
  have kHQ1 := HQ.out.c1
  have kHR0 := HR.out.c0
  have kHR1 := HR.out.c1
  go_wp2_with fail
  go_ret
  exact ⟨rfl, HB.out.below⟩
end Go.Proofs.YtbnlomjlapnoaaaDoor
