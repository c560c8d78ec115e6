/-
  DERIVED. WALK of the law SeasonsRun, given the contracts of package seasons. Written by mkse2.py.
-/
import Derived.Test.YtnmpejhljdkkgaaDoorSeCore
namespace Go.Proofs.YtnmpejhljdkkgaaDoor
open Go.RowKit
set_option maxRecDepth 100000

set_option maxHeartbeats 4000000 in
theorem lawRun_any {I : World → Prop} (C : SeaFns I) (y c : Int) (w : World) (hI : I w) (y0 : -9223372036854775808 ≤ y) (y1 : y ≤ 9223372036854775807) (c0 : -9223372036854775808 ≤ c) (c1 : c ≤ 9223372036854775807) :
    Calls Tryd.prog 3 #[.int .i64 y, .int .i64 c] w fun e w' => e = .returned (.bool true) ∧ Below w.heap.size w w' := by
  have HB := Kp.mk (Bl.mk (Below.refl w.heap.size w))
  have HI := Kp.mk (fun (v : World) (h : Below w.heap.size w v) => C.keep hI h)
  clear hI
  have rl := Kp.mk (fun v (hw : Below w.heap.size w v) => C.lives v (HI.out v hw))
  obtain ⟨f, hf⟩ : ∃ f, fromI c = f := ⟨_, rfl⟩
  obtain ⟨m, hm⟩ : ∃ m, manyI c = m := ⟨_, rfl⟩
  obtain ⟨k, hk⟩ : ∃ k, chkS c = k := ⟨_, rfl⟩
  obtain ⟨lo, hi, e, hR⟩ := run_is y c
  have r1 := Kp.mk (fun v (hw : Below w.heap.size w v) => C.months v (HI.out v hw) c0 c1 hf hm hk)
  have r2 := Kp.mk (fun w => refSM_is hf hm w)
  have r3 := Kp.mk (fun v (hw : Below w.heap.size w v) => C.check v (HI.out v hw) c0 c1 hk)
  have r4 := Kp.mk (fun v (hw : Below w.heap.size w v) => C.run v (HI.out v hw) y0 y1 c0 c1 hR.err hR.val)
  have r5 := Kp.mk (fun w => refRun_is hR.err hR.val w)
  have q1 := Kp.mk (fun w => run_law hR w)
  unfold chkS at hk
  rw [hm] at hk
  by_cases h0 : m = 0
  · rw [if_pos h0] at hk
    subst h0
    subst hk
    clear C hf hm hR y0 y1 c0 c1
    go_enter Tryd.func3, Tryd.ntmps3
    go_wp2_with fail
    refine (r1.out _ HB.out.below).mono ?_
    rintro e u1 ⟨rfl, hbl⟩
    have HB := Kp.mk (HB.out.step hbl)
    clear hbl
    go_wp2_with fail
    refine (r2.out _).mono ?_
    rintro e w' ⟨rfl, rfl⟩
    go_wp2_with fail
    refine (r3.out _ HB.out.below).mono ?_
    rintro e u2 ⟨rfl, hbl⟩
    have HB := Kp.mk (HB.out.step hbl)
    clear hbl
    go_wp2_with fail
    refine (r4.out _ HB.out.below).mono ?_
    rintro e u3 ⟨rfl, hbl⟩
    have HB := Kp.mk (HB.out.step hbl)
    clear hbl
    go_upto_region 9 with fail
    have HX := Kp.mk (rb_new lo hi 32 HB.out.below)
    have hbl := (Below.refl u3.heap.size u3).alloc (Nat.le_refl _) (.cells #[.int .i8 0, .int .i64 lo, .int .i8 0, .int .i64 hi] 32)
    have HB := Kp.mk (HB.out.step hbl)
    clear hbl
    generalize u3.alloc (.cells #[.int .i8 0, .int .i64 lo, .int .i8 0, .int .i64 hi] 32) = u4 at *
    generalize u3.heap.size = g1 at *
    have kHX0 := HX.out.c0
    have kHX1 := HX.out.c1
    have kHX2 := HX.out.c2
    have kHX3 := HX.out.c3
    go_wp2_with fail
    refine (r5.out _).mono ?_
    rintro e u5 ⟨rfl, hbl⟩
    clear kHX0 kHX1 kHX2 kHX3
    have HB := Kp.mk (HB.out.step hbl)
    have HX := Kp.mk (HX.out.step hbl)
    clear hbl
    have kHX0 := HX.out.c0
    have kHX1 := HX.out.c1
    have kHX2 := HX.out.c2
    have kHX3 := HX.out.c3
    go_upto_region 10 with fail
    clear kHX0 kHX1 kHX2 kHX3
    have HY := Kp.mk (rb_new lo hi 32 HB.out.below)
    have hbl := (Below.refl u5.heap.size u5).alloc (Nat.le_refl _) (.cells #[.int .i8 0, .int .i64 lo, .int .i8 0, .int .i64 hi] 32)
    have HB := Kp.mk (HB.out.step hbl)
    have HX := Kp.mk (HX.out.step hbl)
    clear hbl
    generalize u5.alloc (.cells #[.int .i8 0, .int .i64 lo, .int .i8 0, .int .i64 hi] 32) = u6 at *
    generalize u5.heap.size = g2 at *
    have kHX0 := HX.out.c0
    have kHX1 := HX.out.c1
    have kHX2 := HX.out.c2
    have kHX3 := HX.out.c3
    have kHY0 := HY.out.c0
    have kHY1 := HY.out.c1
    have kHY2 := HY.out.c2
    have kHY3 := HY.out.c3
    go_wp2_with fail
    refine (q1.out _).mono ?_
    rintro e u7 ⟨rfl, hbl⟩
    clear kHX0 kHX1 kHX2 kHX3 kHY0 kHY1 kHY2 kHY3
    have HB := Kp.mk (HB.out.step hbl)
    have HX := Kp.mk (HX.out.step hbl)
    have HY := Kp.mk (HY.out.step hbl)
    clear hbl
    have kHX0 := HX.out.c0
    have kHX1 := HX.out.c1
    have kHX2 := HX.out.c2
    have kHX3 := HX.out.c3
    have kHY0 := HY.out.c0
    have kHY1 := HY.out.c1
    have kHY2 := HY.out.c2
    have kHY3 := HY.out.c3
    go_wp2_with fail
    refine (rl.out _ HB.out.below).mono ?_
    rintro e u8 ⟨rfl, hbl⟩
    clear kHX0 kHX1 kHX2 kHX3 kHY0 kHY1 kHY2 kHY3
    have HB := Kp.mk (HB.out.step hbl)
    have HX := Kp.mk (HX.out.step hbl)
    have HY := Kp.mk (HY.out.step hbl)
    clear hbl
    have kHX0 := HX.out.c0
    have kHX1 := HX.out.c1
    have kHX2 := HX.out.c2
    have kHX3 := HX.out.c3
    have kHY0 := HY.out.c0
    have kHY1 := HY.out.c1
    have kHY2 := HY.out.c2
    have kHY3 := HY.out.c3
    go_wp2_with fail
    go_ret
    exact ⟨rfl, HB.out.below⟩
  · rw [if_neg h0] at hk
    have t1 : (m == 0) = false := by rw [beq_eq_false_iff_ne]; exact h0
    subst hk
    clear C hf hm hR y0 y1 c0 c1 h0
    go_enter Tryd.func3, Tryd.ntmps3
    go_wp2_with fail
    refine (r1.out _ HB.out.below).mono ?_
    rintro e u1 ⟨rfl, hbl⟩
    have HB := Kp.mk (HB.out.step hbl)
    clear hbl
    go_wp2_with fail
    refine (r2.out _).mono ?_
    rintro e w' ⟨rfl, rfl⟩
    go_wp2_with fail
    refine (r3.out _ HB.out.below).mono ?_
    rintro e u2 ⟨rfl, hbl⟩
    have HB := Kp.mk (HB.out.step hbl)
    clear hbl
    go_wp2_with fail
    refine (r4.out _ HB.out.below).mono ?_
    rintro e u3 ⟨rfl, hbl⟩
    have HB := Kp.mk (HB.out.step hbl)
    clear hbl
    go_upto_region 9 with fail
    have HX := Kp.mk (rb_new lo hi 32 HB.out.below)
    have hbl := (Below.refl u3.heap.size u3).alloc (Nat.le_refl _) (.cells #[.int .i8 0, .int .i64 lo, .int .i8 0, .int .i64 hi] 32)
    have HB := Kp.mk (HB.out.step hbl)
    clear hbl
    generalize u3.alloc (.cells #[.int .i8 0, .int .i64 lo, .int .i8 0, .int .i64 hi] 32) = u4 at *
    generalize u3.heap.size = g1 at *
    have kHX0 := HX.out.c0
    have kHX1 := HX.out.c1
    have kHX2 := HX.out.c2
    have kHX3 := HX.out.c3
    go_wp2_with fail
    refine (r5.out _).mono ?_
    rintro e u5 ⟨rfl, hbl⟩
    clear kHX0 kHX1 kHX2 kHX3
    have HB := Kp.mk (HB.out.step hbl)
    have HX := Kp.mk (HX.out.step hbl)
    clear hbl
    have kHX0 := HX.out.c0
    have kHX1 := HX.out.c1
    have kHX2 := HX.out.c2
    have kHX3 := HX.out.c3
    go_upto_region 10 with fail
    clear kHX0 kHX1 kHX2 kHX3
    have HY := Kp.mk (rb_new lo hi 32 HB.out.below)
    have hbl := (Below.refl u5.heap.size u5).alloc (Nat.le_refl _) (.cells #[.int .i8 0, .int .i64 lo, .int .i8 0, .int .i64 hi] 32)
    have HB := Kp.mk (HB.out.step hbl)
    have HX := Kp.mk (HX.out.step hbl)
    clear hbl
    generalize u5.alloc (.cells #[.int .i8 0, .int .i64 lo, .int .i8 0, .int .i64 hi] 32) = u6 at *
    generalize u5.heap.size = g2 at *
    have kHX0 := HX.out.c0
    have kHX1 := HX.out.c1
    have kHX2 := HX.out.c2
    have kHX3 := HX.out.c3
    have kHY0 := HY.out.c0
    have kHY1 := HY.out.c1
    have kHY2 := HY.out.c2
    have kHY3 := HY.out.c3
    go_wp2_with fail
    refine (q1.out _).mono ?_
    rintro e u7 ⟨rfl, hbl⟩
    clear kHX0 kHX1 kHX2 kHX3 kHY0 kHY1 kHY2 kHY3
    have HB := Kp.mk (HB.out.step hbl)
    have HX := Kp.mk (HX.out.step hbl)
    have HY := Kp.mk (HY.out.step hbl)
    clear hbl
    have kHX0 := HX.out.c0
    have kHX1 := HX.out.c1
    have kHX2 := HX.out.c2
    have kHX3 := HX.out.c3
    have kHY0 := HY.out.c0
    have kHY1 := HY.out.c1
    have kHY2 := HY.out.c2
    have kHY3 := HY.out.c3
    go_wp2_with fail
    refine (rl.out _ HB.out.below).mono ?_
    rintro e u8 ⟨rfl, hbl⟩
    clear kHX0 kHX1 kHX2 kHX3 kHY0 kHY1 kHY2 kHY3
    have HB := Kp.mk (HB.out.step hbl)
    have HX := Kp.mk (HX.out.step hbl)
    have HY := Kp.mk (HY.out.step hbl)
    clear hbl
    have kHX0 := HX.out.c0
    have kHX1 := HX.out.c1
    have kHX2 := HX.out.c2
    have kHX3 := HX.out.c3
    have kHY0 := HY.out.c0
    have kHY1 := HY.out.c1
    have kHY2 := HY.out.c2
    have kHY3 := HY.out.c3
    go_wp2_with fail
    go_ret
    exact ⟨rfl, HB.out.below⟩
end Go.Proofs.YtnmpejhljdkkgaaDoor
