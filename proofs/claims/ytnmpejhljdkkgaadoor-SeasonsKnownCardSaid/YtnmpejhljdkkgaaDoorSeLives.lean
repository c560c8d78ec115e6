/-
  DERIVED. The examples of chapter 7 hold, given the contracts of package seasons. Written by mkse2.py.
-/
import Derived.Test.YtnmpejhljdkkgaaDoorSeVals
namespace Go.Proofs.YtnmpejhljdkkgaaDoor
open Go.RowKit
set_option maxRecDepth 100000

theorem three_rows (w : World) : Nums w (w.heap.size) [24, 38, 41] (((w.alloc (.cells #[.int .i64 24, .int .i64 38, .int .i64 41] 3)).alloc (.cells #[.int .i64 12, .int .i64 5, .int .i64 7] 3)).alloc (.cells #[.int .i64 3, .int .i64 4, .int .i64 6] 3)) ∧ Nums w (w.heap.size + 1) [12, 5, 7] (((w.alloc (.cells #[.int .i64 24, .int .i64 38, .int .i64 41] 3)).alloc (.cells #[.int .i64 12, .int .i64 5, .int .i64 7] 3)).alloc (.cells #[.int .i64 3, .int .i64 4, .int .i64 6] 3)) ∧ Nums w (w.heap.size + 1 + 1) [3, 4, 6] (((w.alloc (.cells #[.int .i64 24, .int .i64 38, .int .i64 41] 3)).alloc (.cells #[.int .i64 12, .int .i64 5, .int .i64 7] 3)).alloc (.cells #[.int .i64 3, .int .i64 4, .int .i64 6] 3)) := by
  have h1 := nums_new [24, 38, 41] 3 (Below.refl w.heap.size w)
  have h2 := nums_new [12, 5, 7] 3 h1.below
  have h3 := nums_new [3, 4, 6] 3 h2.below
  rw [World.size_alloc] at h2
  rw [World.size_alloc, World.size_alloc] at h3
  have s1 := (Below.refl (w.alloc (.cells #[.int .i64 24, .int .i64 38, .int .i64 41] 3)).heap.size _).alloc (Nat.le_refl _) (.cells #[.int .i64 12, .int .i64 5, .int .i64 7] 3)
  have s2 := (Below.refl ((w.alloc (.cells #[.int .i64 24, .int .i64 38, .int .i64 41] 3)).alloc (.cells #[.int .i64 12, .int .i64 5, .int .i64 7] 3)).heap.size _).alloc (Nat.le_refl _) (.cells #[.int .i64 3, .int .i64 4, .int .i64 6] 3)
  exact ⟨(h1.step s1).step s2, h2.step s2, h3⟩
set_option maxHeartbeats 8000000 in
theorem lives_of {I : World → Prop} (C : SeaCore I) (w : World) (hI : I w) :
    Calls Tryd.prog 13 #[] w fun e w' => e = .returned (.bool true) ∧ Below w.heap.size w w' := by
  have HB := Kp.mk (Bl.mk (Below.refl w.heap.size w))
  have HI := Kp.mk (fun (v : World) (h : Below w.heap.size w v) => C.keep hI h)
  clear hI
  have HT := three_rows w
  have HX := Kp.mk HT.1
  have HY := Kp.mk HT.2.1
  have HZ := Kp.mk HT.2.2
  clear HT
  have m0 := Kp.mk (fun v (hw : Below w.heap.size w v) => C.months (c := 24) v (HI.out v hw) (by decide) (by decide) mon.1.1 mon.1.2.1 mon.1.2.2)
  have m1 := Kp.mk (fun v (hw : Below w.heap.size w v) => C.months (c := 38) v (HI.out v hw) (by decide) (by decide) mon.2.1.1 mon.2.1.2.1 mon.2.1.2.2)
  have m2 := Kp.mk (fun v (hw : Below w.heap.size w v) => C.months (c := 41) v (HI.out v hw) (by decide) (by decide) mon.2.2.1.1 mon.2.2.1.2.1 mon.2.2.1.2.2)
  have m3 := Kp.mk (fun v (hw : Below w.heap.size w v) => C.months (c := 20) v (HI.out v hw) (by decide) (by decide) mon.2.2.2.1 mon.2.2.2.2.1 mon.2.2.2.2.2)
  have r0 := Kp.mk (fun v (hw : Below w.heap.size w v) => C.run (y := 2000) (c := 21) v (HI.out v hw) (by decide) (by decide) (by decide) (by decide) val1.err val1.val)
  have q0 := Kp.mk (fun w => run_law val1 w)
  have r1 := Kp.mk (fun v (hw : Below w.heap.size w v) => C.run (y := 1999) (c := 24) v (HI.out v hw) (by decide) (by decide) (by decide) (by decide) val2.err val2.val)
  have q1 := Kp.mk (fun w => run_law val2 w)
  have r2 := Kp.mk (fun v (hw : Below w.heap.size w v) => C.run (y := 10000000000000000) (c := 24) v (HI.out v hw) (by decide) (by decide) (by decide) (by decide) val3.err val3.val)
  have q2 := Kp.mk (fun w => run_law val3 w)
  have r3 := Kp.mk (fun v (hw : Below w.heap.size w v) => C.run (y := 10000000000000000) (c := 36) v (HI.out v hw) (by decide) (by decide) (by decide) (by decide) val4.err val4.val)
  have q3 := Kp.mk (fun w => run_law val4 w)
  have o0 := Kp.mk (fun v (hw : Below w.heap.size w v) => C.of_in (y := 2000) (d := 730485) (c := 24) v (HI.out v hw) (by decide) (by decide) (by decide) (by decide) (by decide) day_at.1 day_at.2 of1.1 of1.2)
  have o1 := Kp.mk (fun v (hw : Below w.heap.size w v) => C.of_in (y := 2000) (d := 730485) (c := 33) v (HI.out v hw) (by decide) (by decide) (by decide) (by decide) (by decide) day_at.1 day_at.2 of2.1 of2.2)
  have o2 := Kp.mk (fun v (hw : Below w.heap.size w v) => C.of_in (y := 2000) (d := 730485) (c := 21) v (HI.out v hw) (by decide) (by decide) (by decide) (by decide) (by decide) day_at.1 day_at.2 of3.1 of3.2)
  have cd := Kp.mk (fun v (hw : Below w.heap.size w v) => C.codes_in (y := 2000) (d := 730485) v (HI.out v hw) (by decide) (by decide) day_at.1 day_at.2 codes_at)
  have d0 := Kp.mk (fun w => days_is 730545 730636 w)
  have d1 := Kp.mk (fun w => days_is 730454 730544 w)
  have d2 := Kp.mk (fun w => days_is 0 0 w)
  have d3 := Kp.mk (fun w => days_is 3652425000000000274 3652425000000000365 w)
  have sl := Kp.mk (fun (W : World) (hb : Below w.heap.size w W) => sl_new (w := w) (W := W) [24, 28, 30, 33, 37, 40] 3 hb (by decide))
  clear C
  go_enter Tryd.func13, Tryd.ntmps13
  go_upto_region 2 with fail
  generalize (((w.alloc (.cells #[.int .i64 24, .int .i64 38, .int .i64 41] 3)).alloc (.cells #[.int .i64 12, .int .i64 5, .int .i64 7] 3)).alloc (.cells #[.int .i64 3, .int .i64 4, .int .i64 6] 3)) = w0 at *
  have HB := Kp.mk (Bl.mk HX.out.below)
  go_wp2_with fail
  go_loopw [4] (fun i wr => ∃ k : Nat, k ≤ 3 ∧ i = .int .i64 k ∧ Kp (Nums w (w.heap.size) [24, 38, 41] wr) ∧ Kp (Nums w (w.heap.size + 1) [12, 5, 7] wr) ∧ Kp (Nums w (w.heap.size + 1 + 1) [3, 4, 6] wr)) (fun i _ => 3 - (intOf i).toNat)
  case atStart => exact ⟨0, by omega, rfl, HX, HY, HZ⟩
  case round =>
    obtain ⟨k, hk, rfl, HX, HY, HZ⟩ := hrel
    have HB := Kp.mk (Bl.mk HX.out.below)
    rcases (show k = 0 ∨ k = 1 ∨ k = 2 ∨ k = 3 by omega) with rfl | rfl | rfl | rfl
    · have n0 : wr.cell? ⟨w.heap.size, 0, none⟩ = some (.int .i64 24) := HX.out.ints 0 (by decide)
      go_wp2_with fail
      refine (m0.out _ HB.out.below).mono ?_
      rintro e v1 ⟨rfl, hbl⟩
      have HX := Kp.mk (HX.out.step hbl)
      have HY := Kp.mk (HY.out.step hbl)
      have HZ := Kp.mk (HZ.out.step hbl)
      clear hbl
      have n1 : v1.cell? ⟨w.heap.size + 1, 0, none⟩ = some (.int .i64 12) := HY.out.ints 0 (by decide)
      have n2 : v1.cell? ⟨w.heap.size + 1 + 1, 0, none⟩ = some (.int .i64 3) := HZ.out.ints 0 (by decide)
      go_wp2_with fail
      go_roundw
      case rel => exact ⟨1, by omega, rfl, HX, HY, HZ⟩
      case measure => simp [intOf]
    · have n0 : wr.cell? ⟨w.heap.size, 1, none⟩ = some (.int .i64 38) := HX.out.ints 1 (by decide)
      go_wp2_with fail
      refine (m1.out _ HB.out.below).mono ?_
      rintro e v1 ⟨rfl, hbl⟩
      have HX := Kp.mk (HX.out.step hbl)
      have HY := Kp.mk (HY.out.step hbl)
      have HZ := Kp.mk (HZ.out.step hbl)
      clear hbl
      have n1 : v1.cell? ⟨w.heap.size + 1, 1, none⟩ = some (.int .i64 5) := HY.out.ints 1 (by decide)
      have n2 : v1.cell? ⟨w.heap.size + 1 + 1, 1, none⟩ = some (.int .i64 4) := HZ.out.ints 1 (by decide)
      go_wp2_with fail
      go_roundw
      case rel => exact ⟨2, by omega, rfl, HX, HY, HZ⟩
      case measure => simp [intOf]
    · have n0 : wr.cell? ⟨w.heap.size, 2, none⟩ = some (.int .i64 41) := HX.out.ints 2 (by decide)
      go_wp2_with fail
      refine (m2.out _ HB.out.below).mono ?_
      rintro e v1 ⟨rfl, hbl⟩
      have HX := Kp.mk (HX.out.step hbl)
      have HY := Kp.mk (HY.out.step hbl)
      have HZ := Kp.mk (HZ.out.step hbl)
      clear hbl
      have n1 : v1.cell? ⟨w.heap.size + 1, 2, none⟩ = some (.int .i64 7) := HY.out.ints 2 (by decide)
      have n2 : v1.cell? ⟨w.heap.size + 1 + 1, 2, none⟩ = some (.int .i64 6) := HZ.out.ints 2 (by decide)
      go_wp2_with fail
      go_roundw
      case rel => exact ⟨3, by omega, rfl, HX, HY, HZ⟩
      case measure => simp [intOf]
    · clear HX HY HZ hk m0 m1 m2
      go_wp2_with fail
      refine (m3.out _ HB.out.below).mono ?_
      rintro e u1 ⟨rfl, hbl⟩
      have HB := Kp.mk (HB.out.step hbl)
      clear hbl
      go_wp2_with fail
      refine (r0.out _ HB.out.below).mono ?_
      rintro e u2 ⟨rfl, hbl⟩
      have HB := Kp.mk (HB.out.step hbl)
      clear hbl
      go_upto_region 10 with fail
      have HP := Kp.mk (rb_new 730545 730636 32 HB.out.below)
      have hbl := (Below.refl u2.heap.size u2).alloc (Nat.le_refl _) (.cells #[.int .i8 0, .int .i64 730545, .int .i8 0, .int .i64 730636] 32)
      have HB := Kp.mk (HB.out.step hbl)
      clear hbl
      generalize u2.alloc (.cells #[.int .i8 0, .int .i64 730545, .int .i8 0, .int .i64 730636] 32) = u3 at *
      generalize u2.heap.size = g0 at *
      have kHP0 := HP.out.c0
      have kHP1 := HP.out.c1
      have kHP2 := HP.out.c2
      have kHP3 := HP.out.c3
      go_wp2_with fail
      refine (r1.out _ HB.out.below).mono ?_
      rintro e u4 ⟨rfl, hbl⟩
      clear kHP0 kHP1 kHP2 kHP3
      have HB := Kp.mk (HB.out.step hbl)
      have HP := Kp.mk (HP.out.step hbl)
      clear hbl
      have kHP0 := HP.out.c0
      have kHP1 := HP.out.c1
      have kHP2 := HP.out.c2
      have kHP3 := HP.out.c3
      go_upto_region 11 with fail
      clear kHP0 kHP1 kHP2 kHP3
      have HQ := Kp.mk (rb_new 730454 730544 32 HB.out.below)
      have hbl := (Below.refl u4.heap.size u4).alloc (Nat.le_refl _) (.cells #[.int .i8 0, .int .i64 730454, .int .i8 0, .int .i64 730544] 32)
      have HB := Kp.mk (HB.out.step hbl)
      have HP := Kp.mk (HP.out.step hbl)
      clear hbl
      generalize u4.alloc (.cells #[.int .i8 0, .int .i64 730454, .int .i8 0, .int .i64 730544] 32) = u5 at *
      generalize u4.heap.size = g1 at *
      have kHP0 := HP.out.c0
      have kHP1 := HP.out.c1
      have kHP2 := HP.out.c2
      have kHP3 := HP.out.c3
      have kHQ0 := HQ.out.c0
      have kHQ1 := HQ.out.c1
      have kHQ2 := HQ.out.c2
      have kHQ3 := HQ.out.c3
      go_wp2_with fail
      refine (r2.out _ HB.out.below).mono ?_
      rintro e u6 ⟨rfl, hbl⟩
      clear kHP0 kHP1 kHP2 kHP3 kHQ0 kHQ1 kHQ2 kHQ3
      have HB := Kp.mk (HB.out.step hbl)
      have HP := Kp.mk (HP.out.step hbl)
      have HQ := Kp.mk (HQ.out.step hbl)
      clear hbl
      have kHP0 := HP.out.c0
      have kHP1 := HP.out.c1
      have kHP2 := HP.out.c2
      have kHP3 := HP.out.c3
      have kHQ0 := HQ.out.c0
      have kHQ1 := HQ.out.c1
      have kHQ2 := HQ.out.c2
      have kHQ3 := HQ.out.c3
      go_upto_region 12 with fail
      clear kHP0 kHP1 kHP2 kHP3 kHQ0 kHQ1 kHQ2 kHQ3
      have HR := Kp.mk (rb_new 0 0 32 HB.out.below)
      have hbl := (Below.refl u6.heap.size u6).alloc (Nat.le_refl _) (.cells #[.int .i8 0, .int .i64 0, .int .i8 0, .int .i64 0] 32)
      have HB := Kp.mk (HB.out.step hbl)
      have HP := Kp.mk (HP.out.step hbl)
      have HQ := Kp.mk (HQ.out.step hbl)
      clear hbl
      generalize u6.alloc (.cells #[.int .i8 0, .int .i64 0, .int .i8 0, .int .i64 0] 32) = u7 at *
      generalize u6.heap.size = g2 at *
      have kHP0 := HP.out.c0
      have kHP1 := HP.out.c1
      have kHP2 := HP.out.c2
      have kHP3 := HP.out.c3
      have kHQ0 := HQ.out.c0
      have kHQ1 := HQ.out.c1
      have kHQ2 := HQ.out.c2
      have kHQ3 := HQ.out.c3
      have kHR0 := HR.out.c0
      have kHR1 := HR.out.c1
      have kHR2 := HR.out.c2
      have kHR3 := HR.out.c3
      go_wp2_with fail
      refine (r3.out _ HB.out.below).mono ?_
      rintro e u8 ⟨rfl, hbl⟩
      clear kHP0 kHP1 kHP2 kHP3 kHQ0 kHQ1 kHQ2 kHQ3 kHR0 kHR1 kHR2 kHR3
      have HB := Kp.mk (HB.out.step hbl)
      have HP := Kp.mk (HP.out.step hbl)
      have HQ := Kp.mk (HQ.out.step hbl)
      have HR := Kp.mk (HR.out.step hbl)
      clear hbl
      have kHP0 := HP.out.c0
      have kHP1 := HP.out.c1
      have kHP2 := HP.out.c2
      have kHP3 := HP.out.c3
      have kHQ0 := HQ.out.c0
      have kHQ1 := HQ.out.c1
      have kHQ2 := HQ.out.c2
      have kHQ3 := HQ.out.c3
      have kHR0 := HR.out.c0
      have kHR1 := HR.out.c1
      have kHR2 := HR.out.c2
      have kHR3 := HR.out.c3
      go_upto_region 13 with fail
      clear kHP0 kHP1 kHP2 kHP3 kHQ0 kHQ1 kHQ2 kHQ3 kHR0 kHR1 kHR2 kHR3
      have HS := Kp.mk (rb_new 3652425000000000274 3652425000000000365 32 HB.out.below)
      have hbl := (Below.refl u8.heap.size u8).alloc (Nat.le_refl _) (.cells #[.int .i8 0, .int .i64 3652425000000000274, .int .i8 0, .int .i64 3652425000000000365] 32)
      have HB := Kp.mk (HB.out.step hbl)
      have HP := Kp.mk (HP.out.step hbl)
      have HQ := Kp.mk (HQ.out.step hbl)
      have HR := Kp.mk (HR.out.step hbl)
      clear hbl
      generalize u8.alloc (.cells #[.int .i8 0, .int .i64 3652425000000000274, .int .i8 0, .int .i64 3652425000000000365] 32) = u9 at *
      generalize u8.heap.size = g3 at *
      have kHP0 := HP.out.c0
      have kHP1 := HP.out.c1
      have kHP2 := HP.out.c2
      have kHP3 := HP.out.c3
      have kHQ0 := HQ.out.c0
      have kHQ1 := HQ.out.c1
      have kHQ2 := HQ.out.c2
      have kHQ3 := HQ.out.c3
      have kHR0 := HR.out.c0
      have kHR1 := HR.out.c1
      have kHR2 := HR.out.c2
      have kHR3 := HR.out.c3
      have kHS0 := HS.out.c0
      have kHS1 := HS.out.c1
      have kHS2 := HS.out.c2
      have kHS3 := HS.out.c3
      go_upto_region 13 with fail
      have hbl := (Below.refl u9.heap.size u9).drew
      have HBz := Kp.mk (HB.out.step hbl)
      have HPz := Kp.mk (HP.out.step hbl)
      have HQz := Kp.mk (HQ.out.step hbl)
      have HRz := Kp.mk (HR.out.step hbl)
      have HSz := Kp.mk (HS.out.step hbl)
      have kHP0z := HPz.out.c0
      have kHP1z := HPz.out.c1
      have kHP2z := HPz.out.c2
      have kHP3z := HPz.out.c3
      have kHQ0z := HQz.out.c0
      have kHQ1z := HQz.out.c1
      have kHQ2z := HQz.out.c2
      have kHQ3z := HQz.out.c3
      have kHR0z := HRz.out.c0
      have kHR1z := HRz.out.c1
      have kHR2z := HRz.out.c2
      have kHR3z := HRz.out.c3
      have kHS0z := HSz.out.c0
      have kHS1z := HSz.out.c1
      have kHS2z := HSz.out.c2
      have kHS3z := HSz.out.c3
      clear hbl
      go_region_held3 (fun w' => w'.cell? ⟨g0, 0, none⟩ = some (.int .i8 0) ∧ w'.cell? ⟨g0, 1, none⟩ = some (.int .i64 730545) ∧ w'.cell? ⟨g0, 2, none⟩ = some (.int .i8 0) ∧ w'.cell? ⟨g0, 3, none⟩ = some (.int .i64 730636) ∧ w'.cell? ⟨g1, 0, none⟩ = some (.int .i8 0) ∧ w'.cell? ⟨g1, 1, none⟩ = some (.int .i64 730454) ∧ w'.cell? ⟨g1, 2, none⟩ = some (.int .i8 0) ∧ w'.cell? ⟨g1, 3, none⟩ = some (.int .i64 730544) ∧ w'.cell? ⟨g2, 0, none⟩ = some (.int .i8 0) ∧ w'.cell? ⟨g2, 1, none⟩ = some (.int .i64 0) ∧ w'.cell? ⟨g2, 2, none⟩ = some (.int .i8 0) ∧ w'.cell? ⟨g2, 3, none⟩ = some (.int .i64 0) ∧ w'.cell? ⟨g3, 0, none⟩ = some (.int .i8 0) ∧ w'.cell? ⟨g3, 1, none⟩ = some (.int .i64 3652425000000000274) ∧ w'.cell? ⟨g3, 2, none⟩ = some (.int .i8 0) ∧ w'.cell? ⟨g3, 3, none⟩ = some (.int .i64 3652425000000000365)) (first | (with_reducible exact ⟨kHP0, kHP1, kHP2, kHP3, kHQ0, kHQ1, kHQ2, kHQ3, kHR0, kHR1, kHR2, kHR3, kHS0, kHS1, kHS2, kHS3⟩) | (with_reducible exact ⟨kHP0z, kHP1z, kHP2z, kHP3z, kHQ0z, kHQ1z, kHQ2z, kHQ3z, kHR0z, kHR1z, kHR2z, kHR3z, kHS0z, kHS1z, kHS2z, kHS3z⟩) | (with_reducible exact ⟨kHP0_u10, kHP1_u10, kHP2_u10, kHP3_u10, kHQ0_u10, kHQ1_u10, kHQ2_u10, kHQ3_u10, kHR0_u10, kHR1_u10, kHR2_u10, kHR3_u10, kHS0_u10, kHS1_u10, kHS2_u10, kHS3_u10⟩) | (with_reducible exact ⟨kHP0_u11, kHP1_u11, kHP2_u11, kHP3_u11, kHQ0_u11, kHQ1_u11, kHQ2_u11, kHQ3_u11, kHR0_u11, kHR1_u11, kHR2_u11, kHR3_u11, kHS0_u11, kHS1_u11, kHS2_u11, kHS3_u11⟩) | (with_reducible exact ⟨kHP0_u12, kHP1_u12, kHP2_u12, kHP3_u12, kHQ0_u12, kHQ1_u12, kHQ2_u12, kHQ3_u12, kHR0_u12, kHR1_u12, kHR2_u12, kHR3_u12, kHS0_u12, kHS1_u12, kHS2_u12, kHS3_u12⟩) | (with_reducible exact ⟨kHP0_u13, kHP1_u13, kHP2_u13, kHP3_u13, kHQ0_u13, kHQ1_u13, kHQ2_u13, kHQ3_u13, kHR0_u13, kHR1_u13, kHR2_u13, kHR3_u13, kHS0_u13, kHS1_u13, kHS2_u13, kHS3_u13⟩) | (with_reducible exact ⟨kHP0_u14, kHP1_u14, kHP2_u14, kHP3_u14, kHQ0_u14, kHQ1_u14, kHQ2_u14, kHQ3_u14, kHR0_u14, kHR1_u14, kHR2_u14, kHR3_u14, kHS0_u14, kHS1_u14, kHS2_u14, kHS3_u14⟩) | (with_reducible exact ⟨kHP0_u15, kHP1_u15, kHP2_u15, kHP3_u15, kHQ0_u15, kHQ1_u15, kHQ2_u15, kHQ3_u15, kHR0_u15, kHR1_u15, kHR2_u15, kHR3_u15, kHS0_u15, kHS1_u15, kHS2_u15, kHS3_u15⟩) | (with_reducible exact ⟨kHP0_u16, kHP1_u16, kHP2_u16, kHP3_u16, kHQ0_u16, kHQ1_u16, kHQ2_u16, kHQ3_u16, kHR0_u16, kHR1_u16, kHR2_u16, kHR3_u16, kHS0_u16, kHS1_u16, kHS2_u16, kHS3_u16⟩) | (with_reducible exact ⟨kHP0_u17, kHP1_u17, kHP2_u17, kHP3_u17, kHQ0_u17, kHQ1_u17, kHQ2_u17, kHQ3_u17, kHR0_u17, kHR1_u17, kHR2_u17, kHR3_u17, kHS0_u17, kHS1_u17, kHS2_u17, kHS3_u17⟩) | go_keep)
        (first
          | (go_at_call 27; (with_reducible show Calls _ _ _ u9.drew _); refine (d0.out _).mono ?_; rintro e u10 ⟨rfl, hb⟩; have HB_u10 := Kp.mk (HBz.out.step hb); have HP_u10 := Kp.mk (HPz.out.step hb); have HQ_u10 := Kp.mk (HQz.out.step hb); have HR_u10 := Kp.mk (HRz.out.step hb); have HS_u10 := Kp.mk (HSz.out.step hb); have kHP0_u10 := HP_u10.out.c0; have kHP1_u10 := HP_u10.out.c1; have kHP2_u10 := HP_u10.out.c2; have kHP3_u10 := HP_u10.out.c3; have kHQ0_u10 := HQ_u10.out.c0; have kHQ1_u10 := HQ_u10.out.c1; have kHQ2_u10 := HQ_u10.out.c2; have kHQ3_u10 := HQ_u10.out.c3; have kHR0_u10 := HR_u10.out.c0; have kHR1_u10 := HR_u10.out.c1; have kHR2_u10 := HR_u10.out.c2; have kHR3_u10 := HR_u10.out.c3; have kHS0_u10 := HS_u10.out.c0; have kHS1_u10 := HS_u10.out.c1; have kHS2_u10 := HS_u10.out.c2; have kHS3_u10 := HS_u10.out.c3; clear hb)
          | (go_at_call 12; (with_reducible show Calls _ _ _ u10 _); refine (q0.out _).mono ?_; rintro e u11 ⟨rfl, hb⟩; have HB_u11 := Kp.mk (HB_u10.out.step hb); have HP_u11 := Kp.mk (HP_u10.out.step hb); have HQ_u11 := Kp.mk (HQ_u10.out.step hb); have HR_u11 := Kp.mk (HR_u10.out.step hb); have HS_u11 := Kp.mk (HS_u10.out.step hb); have kHP0_u11 := HP_u11.out.c0; have kHP1_u11 := HP_u11.out.c1; have kHP2_u11 := HP_u11.out.c2; have kHP3_u11 := HP_u11.out.c3; have kHQ0_u11 := HQ_u11.out.c0; have kHQ1_u11 := HQ_u11.out.c1; have kHQ2_u11 := HQ_u11.out.c2; have kHQ3_u11 := HQ_u11.out.c3; have kHR0_u11 := HR_u11.out.c0; have kHR1_u11 := HR_u11.out.c1; have kHR2_u11 := HR_u11.out.c2; have kHR3_u11 := HR_u11.out.c3; have kHS0_u11 := HS_u11.out.c0; have kHS1_u11 := HS_u11.out.c1; have kHS2_u11 := HS_u11.out.c2; have kHS3_u11 := HS_u11.out.c3; clear hb)
          | (go_at_call 27; (with_reducible show Calls _ _ _ u11 _); refine (d1.out _).mono ?_; rintro e u12 ⟨rfl, hb⟩; have HB_u12 := Kp.mk (HB_u11.out.step hb); have HP_u12 := Kp.mk (HP_u11.out.step hb); have HQ_u12 := Kp.mk (HQ_u11.out.step hb); have HR_u12 := Kp.mk (HR_u11.out.step hb); have HS_u12 := Kp.mk (HS_u11.out.step hb); have kHP0_u12 := HP_u12.out.c0; have kHP1_u12 := HP_u12.out.c1; have kHP2_u12 := HP_u12.out.c2; have kHP3_u12 := HP_u12.out.c3; have kHQ0_u12 := HQ_u12.out.c0; have kHQ1_u12 := HQ_u12.out.c1; have kHQ2_u12 := HQ_u12.out.c2; have kHQ3_u12 := HQ_u12.out.c3; have kHR0_u12 := HR_u12.out.c0; have kHR1_u12 := HR_u12.out.c1; have kHR2_u12 := HR_u12.out.c2; have kHR3_u12 := HR_u12.out.c3; have kHS0_u12 := HS_u12.out.c0; have kHS1_u12 := HS_u12.out.c1; have kHS2_u12 := HS_u12.out.c2; have kHS3_u12 := HS_u12.out.c3; clear hb)
          | (go_at_call 12; (with_reducible show Calls _ _ _ u12 _); refine (q1.out _).mono ?_; rintro e u13 ⟨rfl, hb⟩; have HB_u13 := Kp.mk (HB_u12.out.step hb); have HP_u13 := Kp.mk (HP_u12.out.step hb); have HQ_u13 := Kp.mk (HQ_u12.out.step hb); have HR_u13 := Kp.mk (HR_u12.out.step hb); have HS_u13 := Kp.mk (HS_u12.out.step hb); have kHP0_u13 := HP_u13.out.c0; have kHP1_u13 := HP_u13.out.c1; have kHP2_u13 := HP_u13.out.c2; have kHP3_u13 := HP_u13.out.c3; have kHQ0_u13 := HQ_u13.out.c0; have kHQ1_u13 := HQ_u13.out.c1; have kHQ2_u13 := HQ_u13.out.c2; have kHQ3_u13 := HQ_u13.out.c3; have kHR0_u13 := HR_u13.out.c0; have kHR1_u13 := HR_u13.out.c1; have kHR2_u13 := HR_u13.out.c2; have kHR3_u13 := HR_u13.out.c3; have kHS0_u13 := HS_u13.out.c0; have kHS1_u13 := HS_u13.out.c1; have kHS2_u13 := HS_u13.out.c2; have kHS3_u13 := HS_u13.out.c3; clear hb)
          | (go_at_call 27; (with_reducible show Calls _ _ _ u13 _); refine (d2.out _).mono ?_; rintro e u14 ⟨rfl, hb⟩; have HB_u14 := Kp.mk (HB_u13.out.step hb); have HP_u14 := Kp.mk (HP_u13.out.step hb); have HQ_u14 := Kp.mk (HQ_u13.out.step hb); have HR_u14 := Kp.mk (HR_u13.out.step hb); have HS_u14 := Kp.mk (HS_u13.out.step hb); have kHP0_u14 := HP_u14.out.c0; have kHP1_u14 := HP_u14.out.c1; have kHP2_u14 := HP_u14.out.c2; have kHP3_u14 := HP_u14.out.c3; have kHQ0_u14 := HQ_u14.out.c0; have kHQ1_u14 := HQ_u14.out.c1; have kHQ2_u14 := HQ_u14.out.c2; have kHQ3_u14 := HQ_u14.out.c3; have kHR0_u14 := HR_u14.out.c0; have kHR1_u14 := HR_u14.out.c1; have kHR2_u14 := HR_u14.out.c2; have kHR3_u14 := HR_u14.out.c3; have kHS0_u14 := HS_u14.out.c0; have kHS1_u14 := HS_u14.out.c1; have kHS2_u14 := HS_u14.out.c2; have kHS3_u14 := HS_u14.out.c3; clear hb)
          | (go_at_call 12; (with_reducible show Calls _ _ _ u14 _); refine (q2.out _).mono ?_; rintro e u15 ⟨rfl, hb⟩; have HB_u15 := Kp.mk (HB_u14.out.step hb); have HP_u15 := Kp.mk (HP_u14.out.step hb); have HQ_u15 := Kp.mk (HQ_u14.out.step hb); have HR_u15 := Kp.mk (HR_u14.out.step hb); have HS_u15 := Kp.mk (HS_u14.out.step hb); have kHP0_u15 := HP_u15.out.c0; have kHP1_u15 := HP_u15.out.c1; have kHP2_u15 := HP_u15.out.c2; have kHP3_u15 := HP_u15.out.c3; have kHQ0_u15 := HQ_u15.out.c0; have kHQ1_u15 := HQ_u15.out.c1; have kHQ2_u15 := HQ_u15.out.c2; have kHQ3_u15 := HQ_u15.out.c3; have kHR0_u15 := HR_u15.out.c0; have kHR1_u15 := HR_u15.out.c1; have kHR2_u15 := HR_u15.out.c2; have kHR3_u15 := HR_u15.out.c3; have kHS0_u15 := HS_u15.out.c0; have kHS1_u15 := HS_u15.out.c1; have kHS2_u15 := HS_u15.out.c2; have kHS3_u15 := HS_u15.out.c3; clear hb)
          | (go_at_call 27; (with_reducible show Calls _ _ _ u15 _); refine (d3.out _).mono ?_; rintro e u16 ⟨rfl, hb⟩; have HB_u16 := Kp.mk (HB_u15.out.step hb); have HP_u16 := Kp.mk (HP_u15.out.step hb); have HQ_u16 := Kp.mk (HQ_u15.out.step hb); have HR_u16 := Kp.mk (HR_u15.out.step hb); have HS_u16 := Kp.mk (HS_u15.out.step hb); have kHP0_u16 := HP_u16.out.c0; have kHP1_u16 := HP_u16.out.c1; have kHP2_u16 := HP_u16.out.c2; have kHP3_u16 := HP_u16.out.c3; have kHQ0_u16 := HQ_u16.out.c0; have kHQ1_u16 := HQ_u16.out.c1; have kHQ2_u16 := HQ_u16.out.c2; have kHQ3_u16 := HQ_u16.out.c3; have kHR0_u16 := HR_u16.out.c0; have kHR1_u16 := HR_u16.out.c1; have kHR2_u16 := HR_u16.out.c2; have kHR3_u16 := HR_u16.out.c3; have kHS0_u16 := HS_u16.out.c0; have kHS1_u16 := HS_u16.out.c1; have kHS2_u16 := HS_u16.out.c2; have kHS3_u16 := HS_u16.out.c3; clear hb)
          | (go_at_call 12; (with_reducible show Calls _ _ _ u16 _); refine (q3.out _).mono ?_; rintro e u17 ⟨rfl, hb⟩; have HB_u17 := Kp.mk (HB_u16.out.step hb); have HP_u17 := Kp.mk (HP_u16.out.step hb); have HQ_u17 := Kp.mk (HQ_u16.out.step hb); have HR_u17 := Kp.mk (HR_u16.out.step hb); have HS_u17 := Kp.mk (HS_u16.out.step hb); have kHP0_u17 := HP_u17.out.c0; have kHP1_u17 := HP_u17.out.c1; have kHP2_u17 := HP_u17.out.c2; have kHP3_u17 := HP_u17.out.c3; have kHQ0_u17 := HQ_u17.out.c0; have kHQ1_u17 := HQ_u17.out.c1; have kHQ2_u17 := HQ_u17.out.c2; have kHQ3_u17 := HQ_u17.out.c3; have kHR0_u17 := HR_u17.out.c0; have kHR1_u17 := HR_u17.out.c1; have kHR2_u17 := HR_u17.out.c2; have kHR3_u17 := HR_u17.out.c3; have kHS0_u17 := HS_u17.out.c0; have kHS1_u17 := HS_u17.out.c1; have kHS2_u17 := HS_u17.out.c2; have kHS3_u17 := HS_u17.out.c3; clear hb))
      have HB := HB_u17
      have HP := HP_u17
      have HQ := HQ_u17
      have HR := HR_u17
      have HS := HS_u17
      have kHP0 := HP.out.c0
      have kHP1 := HP.out.c1
      have kHP2 := HP.out.c2
      have kHP3 := HP.out.c3
      have kHQ0 := HQ.out.c0
      have kHQ1 := HQ.out.c1
      have kHQ2 := HQ.out.c2
      have kHQ3 := HQ.out.c3
      have kHR0 := HR.out.c0
      have kHR1 := HR.out.c1
      have kHR2 := HR.out.c2
      have kHR3 := HR.out.c3
      have kHS0 := HS.out.c0
      have kHS1 := HS.out.c1
      have kHS2 := HS.out.c2
      have kHS3 := HS.out.c3
      clear kHP0 kHP1 kHP2 kHP3 kHQ0 kHQ1 kHQ2 kHQ3 kHR0 kHR1 kHR2 kHR3 kHS0 kHS1 kHS2 kHS3
      clear HP HQ HR HS d0 q0 r0 d1 q1 r1 d2 q2 r2 d3 q3 r3
      go_wp2_with fail
      refine (o0.out _ HB.out.below).mono ?_
      rintro e u18 ⟨rfl, hbl⟩
      have HB := Kp.mk (HB.out.step hbl)
      clear hbl
      go_wp2_with fail
      refine (o1.out _ HB.out.below).mono ?_
      rintro e u19 ⟨rfl, hbl⟩
      have HB := Kp.mk (HB.out.step hbl)
      clear hbl
      go_wp2_with fail
      refine (o2.out _ HB.out.below).mono ?_
      rintro e u20 ⟨rfl, hbl⟩
      have HB := Kp.mk (HB.out.step hbl)
      clear hbl
      go_wp2_with fail
      refine (cd.out _ HB.out.below).mono ?_
      rintro e u21 ⟨v, hs, rfl, hbl⟩
      have HB := Kp.mk (HB.out.step hbl)
      have HS := Kp.mk hs
      clear hbl hs
      go_wp2_with fail
      have hbl := (Below.refl u21.heap.size u21).alloc (Nat.le_refl _) (.cells #[.int .i64 24, .int .i64 28, .int .i64 30, .int .i64 33, .int .i64 37, .int .i64 40] 3)
      have HS := Kp.mk (HS.out.step hbl)
      have HU := Kp.mk (sl.out _ HB.out.below)
      have HB := Kp.mk (HB.out.step hbl)
      clear hbl
      refine (list_is _ HS.out HU.out).mono ?_
      rintro e u99 ⟨rfl, hbl⟩
      have HB := Kp.mk (HB.out.step hbl)
      go_wp2_with fail
      go_ret
      exact ⟨rfl, HB.out.below⟩
end Go.Proofs.YtnmpejhljdkkgaaDoor
