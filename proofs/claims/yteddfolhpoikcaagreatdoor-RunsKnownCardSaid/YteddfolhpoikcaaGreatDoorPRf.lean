/-
 DERIVED. CONTRACTS of the reference of layer 9 (runs): Check, Has, Overlap, Touch, Compare. Written by mkrnref.py.
 DERIVED. CONTRACTS of the reference of layer 9 (runs): Join, Common, Within. Written by mkrnrefb.py.
 DERIVED. CONTRACTS of the reference of layer 9 (runs): Within, Text. Written by mkrnrefc.py.
 DERIVED. CONTRACTS (Shift) of the reference of layer 9 (runs): Len, Shift. Written by mkrnrefc.py.
 DERIVED. CONTRACTS of the reference of layer 9 (runs): Len, Shift. Written by mkrnrefc.py.
-/
import Derived.Test.YteddfolhpoikcaaGreatDoorPPa
import Derived.Test.YteddfolhpoikcaaGreatDoorPRg
import Derived.Test.YteddfolhpoikcaaGreatDoorPR1a
import Derived.Test.YteddfolhpoikcaaGreatDoorPHand
import Derived.Deep.RegionHeld3
namespace Go.Proofs.YteddfolhpoikcaaGreatDoor
open Go.RowKit
set_option maxRecDepth 100000

set_option maxHeartbeats 2000000 in
theorem refRChk_is {r : Rn} {c : Int} (hc : chkR r = c) (w : World) :
 Calls Tryz.prog 8 #[.agg #[.int .i8 r.f, .int .i64 r.d, .int .i8 r.g, .int .i64 r.e]] w fun x w' => x = .returned (.int .i64 c) ∧ Below w.heap.size w w' := by
 have HA := Kp.mk (rg_new r 26 (Below.refl w.heap.size w))
 have HB := Kp.mk (bl_of HA.1)
 obtain ⟨a, ha⟩ : ∃ a, chkE r.f r.d = a := ⟨_, rfl⟩
 obtain ⟨b, hb⟩ : ∃ b, chkE r.g r.e = b := ⟨_, rfl⟩
 have r1 := Kp.mk (fun w => refEChk_is ha w)
 have r2 := Kp.mk (fun w => refEChk_is hb w)
 obtain ⟨q, hq⟩ : ∃ q, cmpE r.f r.d r.g r.e = q := ⟨_, rfl⟩
 have r3 := Kp.mk (fun w => refECmp_is hq w)
 unfold chkR at hc
 rw [ha, hb, hq] at hc
 clear ha hb hq
 by_cases h1 : a = 0
 ·by_cases h2 : b = 0
  ·rw [if_pos ⟨h1, h2⟩] at hc
   subst h1 h2
   by_cases h3 : r.f = 1
   ·rw [if_pos (.inl h3)] at hc
    subst hc
    have t3 : (r.f == 1) = true := by rw [beq_iff_eq]; exact h3
    clear h3
    go_enter Tryz.func8, Tryz.ntmps8
    go_upto_region 1 with fail
    generalize (w.alloc (.cells #[.int .i8 r.f, .int .i64 r.d, .int .i8 r.g, .int .i64 r.e] 26)) = w0 at *
    have kHA0 := HA.1.c0
    have kHA1 := HA.1.c1
    have kHA2 := HA.1.c2
    have kHA3 := HA.1.c3
    go_wp2_with fail
    refine (r1.1 _).mono ?_
    rintro e u1 ⟨rfl, hbl⟩
    clear kHA0 kHA1 kHA2 kHA3
    have HB := Kp.mk (HB.1.step hbl)
    have HA := Kp.mk (HA.1.step hbl)
    clear hbl
    have kHA0 := HA.1.c0
    have kHA1 := HA.1.c1
    have kHA2 := HA.1.c2
    have kHA3 := HA.1.c3
    go_wp2_with fail
    refine (r2.1 _).mono ?_
    rintro e u2 ⟨rfl, hbl⟩
    clear kHA0 kHA1 kHA2 kHA3
    have HB := Kp.mk (HB.1.step hbl)
    have HA := Kp.mk (HA.1.step hbl)
    clear hbl
    have kHA0 := HA.1.c0
    have kHA1 := HA.1.c1
    have kHA2 := HA.1.c2
    have kHA3 := HA.1.c3
    go_wp2_with fail
    go_ret
    exact ⟨rfl, HB.1.below⟩
   ·have t3 : (r.f == 1) = false := by rw [beq_eq_false_iff_ne]; exact h3
    by_cases h4 : r.g = -1
    ·rw [if_pos (.inr h4)] at hc
     subst hc
     have t4 : (r.g == -1) = true := by rw [beq_iff_eq]; exact h4
     clear h3 h4
     go_enter Tryz.func8, Tryz.ntmps8
     go_upto_region 1 with fail
     generalize (w.alloc (.cells #[.int .i8 r.f, .int .i64 r.d, .int .i8 r.g, .int .i64 r.e] 26)) = w0 at *
     have kHA0 := HA.1.c0
     have kHA1 := HA.1.c1
     have kHA2 := HA.1.c2
     have kHA3 := HA.1.c3
     go_wp2_with fail
     refine (r1.1 _).mono ?_
     rintro e u1 ⟨rfl, hbl⟩
     clear kHA0 kHA1 kHA2 kHA3
     have HB := Kp.mk (HB.1.step hbl)
     have HA := Kp.mk (HA.1.step hbl)
     clear hbl
     have kHA0 := HA.1.c0
     have kHA1 := HA.1.c1
     have kHA2 := HA.1.c2
     have kHA3 := HA.1.c3
     go_wp2_with fail
     refine (r2.1 _).mono ?_
     rintro e u2 ⟨rfl, hbl⟩
     clear kHA0 kHA1 kHA2 kHA3
     have HB := Kp.mk (HB.1.step hbl)
     have HA := Kp.mk (HA.1.step hbl)
     clear hbl
     have kHA0 := HA.1.c0
     have kHA1 := HA.1.c1
     have kHA2 := HA.1.c2
     have kHA3 := HA.1.c3
     go_wp2_with fail
     go_ret
     exact ⟨rfl, HB.1.below⟩
    ·have t4 : (r.g == -1) = false := by rw [beq_eq_false_iff_ne]; exact h4
     rw [if_neg (by omega)] at hc
     clear h3 h4
     by_cases h5 : q = 1
     ·rw [if_pos h5] at hc
      subst hc h5
      go_enter Tryz.func8, Tryz.ntmps8
      go_upto_region 1 with fail
      generalize (w.alloc (.cells #[.int .i8 r.f, .int .i64 r.d, .int .i8 r.g, .int .i64 r.e] 26)) = w0 at *
      have kHA0 := HA.1.c0
      have kHA1 := HA.1.c1
      have kHA2 := HA.1.c2
      have kHA3 := HA.1.c3
      go_wp2_with fail
      refine (r1.1 _).mono ?_
      rintro e u1 ⟨rfl, hbl⟩
      clear kHA0 kHA1 kHA2 kHA3
      have HB := Kp.mk (HB.1.step hbl)
      have HA := Kp.mk (HA.1.step hbl)
      clear hbl
      have kHA0 := HA.1.c0
      have kHA1 := HA.1.c1
      have kHA2 := HA.1.c2
      have kHA3 := HA.1.c3
      go_wp2_with fail
      refine (r2.1 _).mono ?_
      rintro e u2 ⟨rfl, hbl⟩
      clear kHA0 kHA1 kHA2 kHA3
      have HB := Kp.mk (HB.1.step hbl)
      have HA := Kp.mk (HA.1.step hbl)
      clear hbl
      have kHA0 := HA.1.c0
      have kHA1 := HA.1.c1
      have kHA2 := HA.1.c2
      have kHA3 := HA.1.c3
      go_wp2_with fail
      refine (r3.1 _).mono ?_
      rintro e u3 ⟨rfl, hbl⟩
      clear kHA0 kHA1 kHA2 kHA3
      have HB := Kp.mk (HB.1.step hbl)
      have HA := Kp.mk (HA.1.step hbl)
      clear hbl
      have kHA0 := HA.1.c0
      have kHA1 := HA.1.c1
      have kHA2 := HA.1.c2
      have kHA3 := HA.1.c3
      go_wp2_with fail
      go_ret
      exact ⟨rfl, HB.1.below⟩
     ·rw [if_neg h5] at hc
      have t5 : (q == 1) = false := by rw [beq_eq_false_iff_ne]; exact h5
      subst hc
      clear h5
      go_enter Tryz.func8, Tryz.ntmps8
      go_upto_region 1 with fail
      generalize (w.alloc (.cells #[.int .i8 r.f, .int .i64 r.d, .int .i8 r.g, .int .i64 r.e] 26)) = w0 at *
      have kHA0 := HA.1.c0
      have kHA1 := HA.1.c1
      have kHA2 := HA.1.c2
      have kHA3 := HA.1.c3
      go_wp2_with fail
      refine (r1.1 _).mono ?_
      rintro e u1 ⟨rfl, hbl⟩
      clear kHA0 kHA1 kHA2 kHA3
      have HB := Kp.mk (HB.1.step hbl)
      have HA := Kp.mk (HA.1.step hbl)
      clear hbl
      have kHA0 := HA.1.c0
      have kHA1 := HA.1.c1
      have kHA2 := HA.1.c2
      have kHA3 := HA.1.c3
      go_wp2_with fail
      refine (r2.1 _).mono ?_
      rintro e u2 ⟨rfl, hbl⟩
      clear kHA0 kHA1 kHA2 kHA3
      have HB := Kp.mk (HB.1.step hbl)
      have HA := Kp.mk (HA.1.step hbl)
      clear hbl
      have kHA0 := HA.1.c0
      have kHA1 := HA.1.c1
      have kHA2 := HA.1.c2
      have kHA3 := HA.1.c3
      go_wp2_with fail
      refine (r3.1 _).mono ?_
      rintro e u3 ⟨rfl, hbl⟩
      clear kHA0 kHA1 kHA2 kHA3
      have HB := Kp.mk (HB.1.step hbl)
      have HA := Kp.mk (HA.1.step hbl)
      clear hbl
      have kHA0 := HA.1.c0
      have kHA1 := HA.1.c1
      have kHA2 := HA.1.c2
      have kHA3 := HA.1.c3
      go_wp2_with fail
      go_ret
      exact ⟨rfl, HB.1.below⟩
  ·rw [if_neg (fun h => h2 h.2)] at hc
   have t2 : (b != 0) = true := by rw [bne_iff_ne]; exact h2
   subst hc h1
   clear h2
   go_enter Tryz.func8, Tryz.ntmps8
   go_upto_region 1 with fail
   generalize (w.alloc (.cells #[.int .i8 r.f, .int .i64 r.d, .int .i8 r.g, .int .i64 r.e] 26)) = w0 at *
   have kHA0 := HA.1.c0
   have kHA1 := HA.1.c1
   have kHA2 := HA.1.c2
   have kHA3 := HA.1.c3
   go_wp2_with fail
   refine (r1.1 _).mono ?_
   rintro e u1 ⟨rfl, hbl⟩
   clear kHA0 kHA1 kHA2 kHA3
   have HB := Kp.mk (HB.1.step hbl)
   have HA := Kp.mk (HA.1.step hbl)
   clear hbl
   have kHA0 := HA.1.c0
   have kHA1 := HA.1.c1
   have kHA2 := HA.1.c2
   have kHA3 := HA.1.c3
   go_wp2_with fail
   refine (r2.1 _).mono ?_
   rintro e u2 ⟨rfl, hbl⟩
   clear kHA0 kHA1 kHA2 kHA3
   have HB := Kp.mk (HB.1.step hbl)
   have HA := Kp.mk (HA.1.step hbl)
   clear hbl
   have kHA0 := HA.1.c0
   have kHA1 := HA.1.c1
   have kHA2 := HA.1.c2
   have kHA3 := HA.1.c3
   go_wp2_with fail
   go_ret
   exact ⟨rfl, HB.1.below⟩
 ·rw [if_neg (fun h => h1 h.1)] at hc
  have t1 : (a != 0) = true := by rw [bne_iff_ne]; exact h1
  subst hc
  clear h1
  go_enter Tryz.func8, Tryz.ntmps8
  go_upto_region 1 with fail
  generalize (w.alloc (.cells #[.int .i8 r.f, .int .i64 r.d, .int .i8 r.g, .int .i64 r.e] 26)) = w0 at *
  have kHA0 := HA.1.c0
  have kHA1 := HA.1.c1
  have kHA2 := HA.1.c2
  have kHA3 := HA.1.c3
  go_wp2_with fail
  refine (r1.1 _).mono ?_
  rintro e u1 ⟨rfl, hbl⟩
  clear kHA0 kHA1 kHA2 kHA3
  have HB := Kp.mk (HB.1.step hbl)
  have HA := Kp.mk (HA.1.step hbl)
  clear hbl
  have kHA0 := HA.1.c0
  have kHA1 := HA.1.c1
  have kHA2 := HA.1.c2
  have kHA3 := HA.1.c3
  go_wp2_with fail
  go_ret
  exact ⟨rfl, HB.1.below⟩
set_option maxHeartbeats 2000000 in
theorem refRHas_is {r : Rn} {x : Int} {b : Bool} (hr : r.Ok) (x0 : -9223372036854775808 ≤ x) (x1 : x ≤ 9223372036854775807) (hb : decide (r.lo ≤ x ∧ x ≤ r.hi) = b) (w : World) :
 Calls Tryz.prog 23 #[.agg #[.int .i8 r.f, .int .i64 r.d, .int .i8 r.g, .int .i64 r.e], .int .i64 x] w fun x w' => x = .returned (.bool b) ∧ Below w.heap.size w w' := by
 have HA := Kp.mk (rg_new r 26 (Below.refl w.heap.size w))
 have HB := Kp.mk (bl_of HA.1)
 have p1 := hr.pos.pl
 have p2 := hr.pos.ph
 have p3 := hr.pos.le
 by_cases h1 : r.f = -1
 ·have t1 : (r.f == -1) = true := by rw [beq_iff_eq]; exact h1
  by_cases h2 : r.g = 1
  ·have t2 : (r.g == 1) = true := by rw [beq_iff_eq]; exact h2
   obtain rfl : true = b := by rw [← hb, decide_eq_true_iff.2]; omega
   clear h1 h2 p1 p2 p3 hb hr x0 x1
   go_enter Tryz.func23, Tryz.ntmps23
   go_upto_region 1 with fail
   generalize (w.alloc (.cells #[.int .i8 r.f, .int .i64 r.d, .int .i8 r.g, .int .i64 r.e] 26)) = w0 at *
   have kHA0 := HA.1.c0
   have kHA1 := HA.1.c1
   have kHA2 := HA.1.c2
   have kHA3 := HA.1.c3
   go_wp2_with fail
   go_ret
   exact ⟨rfl, HB.1.below⟩
  ·have t2 : (r.g == 1) = false := by rw [beq_eq_false_iff_ne]; exact h2
   have hb2 : decide (x ≤ r.e) = b := by rw [← hb, decide_eq_decide]; omega
   clear h1 h2 p1 p2 p3 hb hr x0 x1
   go_enter Tryz.func23, Tryz.ntmps23
   go_upto_region 1 with fail
   generalize (w.alloc (.cells #[.int .i8 r.f, .int .i64 r.d, .int .i8 r.g, .int .i64 r.e] 26)) = w0 at *
   have kHA0 := HA.1.c0
   have kHA1 := HA.1.c1
   have kHA2 := HA.1.c2
   have kHA3 := HA.1.c3
   go_wp2_with fail
   go_ret
   exact ⟨rfl, HB.1.below⟩
 ·have t1 : (r.f == -1) = false := by rw [beq_eq_false_iff_ne]; exact h1
  by_cases h3 : r.d ≤ x
  ·by_cases h2 : r.g = 1
   ·have t2 : (r.g == 1) = true := by rw [beq_iff_eq]; exact h2
    obtain rfl : true = b := by rw [← hb, decide_eq_true_iff.2]; omega
    clear h1 h2 p1 p2 p3 hb hr x0 x1
    go_enter Tryz.func23, Tryz.ntmps23
    go_upto_region 1 with fail
    generalize (w.alloc (.cells #[.int .i8 r.f, .int .i64 r.d, .int .i8 r.g, .int .i64 r.e] 26)) = w0 at *
    have kHA0 := HA.1.c0
    have kHA1 := HA.1.c1
    have kHA2 := HA.1.c2
    have kHA3 := HA.1.c3
    go_wp2_with fail
    go_ret
    exact ⟨rfl, HB.1.below⟩
   ·have t2 : (r.g == 1) = false := by rw [beq_eq_false_iff_ne]; exact h2
    have hb2 : decide (x ≤ r.e) = b := by rw [← hb, decide_eq_decide]; omega
    clear h1 h2 p1 p2 p3 hb hr x0 x1
    go_enter Tryz.func23, Tryz.ntmps23
    go_upto_region 1 with fail
    generalize (w.alloc (.cells #[.int .i8 r.f, .int .i64 r.d, .int .i8 r.g, .int .i64 r.e] 26)) = w0 at *
    have kHA0 := HA.1.c0
    have kHA1 := HA.1.c1
    have kHA2 := HA.1.c2
    have kHA3 := HA.1.c3
    go_wp2_with fail
    go_ret
    exact ⟨rfl, HB.1.below⟩
  ·obtain rfl : false = b := by rw [← hb, decide_eq_false_iff_not.2]; omega
   clear h1 p1 p2 p3 hb hr x0 x1
   go_enter Tryz.func23, Tryz.ntmps23
   go_upto_region 1 with fail
   generalize (w.alloc (.cells #[.int .i8 r.f, .int .i64 r.d, .int .i8 r.g, .int .i64 r.e] 26)) = w0 at *
   have kHA0 := HA.1.c0
   have kHA1 := HA.1.c1
   have kHA2 := HA.1.c2
   have kHA3 := HA.1.c3
   go_wp2_with fail
   go_ret
   exact ⟨rfl, HB.1.below⟩
set_option maxHeartbeats 2000000 in
theorem begins_is {a b : Rn} {v : Bool} (ha : a.Ok) (hb : b.Ok) (hv : decide (a.lo ≤ b.lo ∧ b.lo ≤ a.hi) = v) (w : World) :
 Calls Tryz.prog 42 #[.agg #[.int .i8 a.f, .int .i64 a.d, .int .i8 a.g, .int .i64 a.e], .agg #[.int .i8 b.f, .int .i64 b.d, .int .i8 b.g, .int .i64 b.e]] w fun x w' => x = .returned (.bool v) ∧ Below w.heap.size w w' := by
 have HA := Kp.mk (rg_two w a b).1
 have HC := Kp.mk (rg_two w a b).2
 have HB := Kp.mk (bl_of HA.1)
 have p1 := ha.pos.pl
 have p2 := ha.pos.ph
 have p3 := ha.pos.le
 have q1 := hb.pos.pl
 by_cases h1 : b.f = -1
 ·have t1 : (b.f == -1) = true := by rw [beq_iff_eq]; exact h1
  have t2 : (a.f == -1) = v := by
   rw [← hv, Bool.eq_iff_iff, beq_iff_eq, decide_eq_true_iff]
   omega
  clear h1 p1 p2 p3 q1 hv ha hb
  go_enter Tryz.func42, Tryz.ntmps42
  go_upto_region 1 with fail
  generalize ((w.alloc (.cells #[.int .i8 a.f, .int .i64 a.d, .int .i8 a.g, .int .i64 a.e] 26)).alloc (.cells #[.int .i8 b.f, .int .i64 b.d, .int .i8 b.g, .int .i64 b.e] 26)) = w0 at *
  have kHA0 := HA.1.c0
  have kHA1 := HA.1.c1
  have kHA2 := HA.1.c2
  have kHA3 := HA.1.c3
  have kHC0 := HC.1.c0
  have kHC1 := HC.1.c1
  have kHC2 := HC.1.c2
  have kHC3 := HC.1.c3
  go_wp2_with fail
  go_ret
  exact ⟨rfl, HB.1.below⟩
 ·have t1 : (b.f == -1) = false := by rw [beq_eq_false_iff_ne]; exact h1
  have e1 : b.lo = b.d := by omega
  rw [e1] at hv
  have r1 := Kp.mk (fun w => refRHas_is (x := b.d) ha hb.d0 hb.d1 hv w)
  clear h1 p1 p2 p3 q1 hv ha hb e1
  go_enter Tryz.func42, Tryz.ntmps42
  go_upto_region 1 with fail
  generalize ((w.alloc (.cells #[.int .i8 a.f, .int .i64 a.d, .int .i8 a.g, .int .i64 a.e] 26)).alloc (.cells #[.int .i8 b.f, .int .i64 b.d, .int .i8 b.g, .int .i64 b.e] 26)) = w0 at *
  have kHA0 := HA.1.c0
  have kHA1 := HA.1.c1
  have kHA2 := HA.1.c2
  have kHA3 := HA.1.c3
  have kHC0 := HC.1.c0
  have kHC1 := HC.1.c1
  have kHC2 := HC.1.c2
  have kHC3 := HC.1.c3
  go_wp2_with fail
  refine (r1.1 _).mono ?_
  rintro e u1 ⟨rfl, hbl⟩
  clear kHA0 kHA1 kHA2 kHA3 kHC0 kHC1 kHC2 kHC3
  have HB := Kp.mk (HB.1.step hbl)
  have HA := Kp.mk (HA.1.step hbl)
  have HC := Kp.mk (HC.1.step hbl)
  clear hbl
  have kHA0 := HA.1.c0
  have kHA1 := HA.1.c1
  have kHA2 := HA.1.c2
  have kHA3 := HA.1.c3
  have kHC0 := HC.1.c0
  have kHC1 := HC.1.c1
  have kHC2 := HC.1.c2
  have kHC3 := HC.1.c3
  go_wp2_with fail
  go_ret
  exact ⟨rfl, HB.1.below⟩
set_option maxHeartbeats 2000000 in
theorem adjacent_is {a b : Rn} {v : Bool} (ha : a.Ok) (hb : b.Ok) (hv : decide (a.hi + 1 = b.lo) = v) (w : World) :
 Calls Tryz.prog 41 #[.agg #[.int .i8 a.f, .int .i64 a.d, .int .i8 a.g, .int .i64 a.e], .agg #[.int .i8 b.f, .int .i64 b.d, .int .i8 b.g, .int .i64 b.e]] w fun x w' => x = .returned (.bool v) ∧ Below w.heap.size w w' := by
 have HA := Kp.mk (rg_two w a b).1
 have HC := Kp.mk (rg_two w a b).2
 have HB := Kp.mk (bl_of HA.1)
 have p2 := ha.pos.ph
 have q1 := hb.pos.pl
 by_cases h1 : a.g = 0
 ·have t1 : (a.g == 0) = true := by rw [beq_iff_eq]; exact h1
  by_cases h2 : b.f = 0
  ·have t2 : (b.f == 0) = true := by rw [beq_iff_eq]; exact h2
   by_cases h3 : a.e < 9223372036854775807
   ·have w1 : IntKind.i64.wrap (a.e + 1) = a.e + 1 := IntWalk.i64_in _ (by have := ha.e0; omega)
    have t4 : (a.e + 1 == b.d) = v := by rw [← hv, Bool.eq_iff_iff, beq_iff_eq, decide_eq_true_iff]; omega
    clear h1 h2 p2 q1 hv ha hb
    go_enter Tryz.func41, Tryz.ntmps41
    go_upto_region 1 with fail
    generalize ((w.alloc (.cells #[.int .i8 a.f, .int .i64 a.d, .int .i8 a.g, .int .i64 a.e] 26)).alloc (.cells #[.int .i8 b.f, .int .i64 b.d, .int .i8 b.g, .int .i64 b.e] 26)) = w0 at *
    have kHA0 := HA.1.c0
    have kHA1 := HA.1.c1
    have kHA2 := HA.1.c2
    have kHA3 := HA.1.c3
    have kHC0 := HC.1.c0
    have kHC1 := HC.1.c1
    have kHC2 := HC.1.c2
    have kHC3 := HC.1.c3
    go_wp2_with fail
    go_ret
    exact ⟨rfl, HB.1.below⟩
   ·obtain rfl : false = v := by rw [← hv, decide_eq_false_iff_not.2]; omega
    clear h1 h2 p2 q1 hv ha hb
    go_enter Tryz.func41, Tryz.ntmps41
    go_upto_region 1 with fail
    generalize ((w.alloc (.cells #[.int .i8 a.f, .int .i64 a.d, .int .i8 a.g, .int .i64 a.e] 26)).alloc (.cells #[.int .i8 b.f, .int .i64 b.d, .int .i8 b.g, .int .i64 b.e] 26)) = w0 at *
    have kHA0 := HA.1.c0
    have kHA1 := HA.1.c1
    have kHA2 := HA.1.c2
    have kHA3 := HA.1.c3
    have kHC0 := HC.1.c0
    have kHC1 := HC.1.c1
    have kHC2 := HC.1.c2
    have kHC3 := HC.1.c3
    go_wp2_with fail
    go_ret
    exact ⟨rfl, HB.1.below⟩
  ·have t2 : (b.f == 0) = false := by rw [beq_eq_false_iff_ne]; exact h2
   obtain rfl : false = v := by rw [← hv, decide_eq_false_iff_not.2]; omega
   clear h1 h2 p2 q1 hv ha hb
   go_enter Tryz.func41, Tryz.ntmps41
   go_upto_region 1 with fail
   generalize ((w.alloc (.cells #[.int .i8 a.f, .int .i64 a.d, .int .i8 a.g, .int .i64 a.e] 26)).alloc (.cells #[.int .i8 b.f, .int .i64 b.d, .int .i8 b.g, .int .i64 b.e] 26)) = w0 at *
   have kHA0 := HA.1.c0
   have kHA1 := HA.1.c1
   have kHA2 := HA.1.c2
   have kHA3 := HA.1.c3
   have kHC0 := HC.1.c0
   have kHC1 := HC.1.c1
   have kHC2 := HC.1.c2
   have kHC3 := HC.1.c3
   go_wp2_with fail
   go_ret
   exact ⟨rfl, HB.1.below⟩
 ·have t1 : (a.g == 0) = false := by rw [beq_eq_false_iff_ne]; exact h1
  obtain rfl : false = v := by rw [← hv, decide_eq_false_iff_not.2]; omega
  clear h1 p2 q1 hv ha hb
  go_enter Tryz.func41, Tryz.ntmps41
  go_upto_region 1 with fail
  generalize ((w.alloc (.cells #[.int .i8 a.f, .int .i64 a.d, .int .i8 a.g, .int .i64 a.e] 26)).alloc (.cells #[.int .i8 b.f, .int .i64 b.d, .int .i8 b.g, .int .i64 b.e] 26)) = w0 at *
  have kHA0 := HA.1.c0
  have kHA1 := HA.1.c1
  have kHA2 := HA.1.c2
  have kHA3 := HA.1.c3
  have kHC0 := HC.1.c0
  have kHC1 := HC.1.c1
  have kHC2 := HC.1.c2
  have kHC3 := HC.1.c3
  go_wp2_with fail
  go_ret
  exact ⟨rfl, HB.1.below⟩
set_option maxHeartbeats 2000000 in
theorem refOver_is {a b : Rn} {v : Bool} (ha : a.Ok) (hb : b.Ok) (hv : decide (a.lo ≤ b.hi ∧ b.lo ≤ a.hi) = v) (w : World) :
 Calls Tryz.prog 13 #[.agg #[.int .i8 a.f, .int .i64 a.d, .int .i8 a.g, .int .i64 a.e], .agg #[.int .i8 b.f, .int .i64 b.d, .int .i8 b.g, .int .i64 b.e]] w fun x w' => x = .returned (.bool v) ∧ Below w.heap.size w w' := by
 have HA := Kp.mk (rg_two w a b).1
 have HC := Kp.mk (rg_two w a b).2
 have HB := Kp.mk (bl_of HA.1)
 have p3 := ha.pos.le
 have q3 := hb.pos.le
 by_cases h1 : a.lo ≤ b.lo ∧ b.lo ≤ a.hi
 ·have r1 := Kp.mk (fun w => begins_is ha hb (decide_eq_true h1) w)
  obtain rfl : true = v := by rw [← hv, decide_eq_true_iff.2]; omega
  clear h1 p3 q3 hv ha hb
  go_enter Tryz.func13, Tryz.ntmps13
  go_upto_region 1 with fail
  generalize ((w.alloc (.cells #[.int .i8 a.f, .int .i64 a.d, .int .i8 a.g, .int .i64 a.e] 26)).alloc (.cells #[.int .i8 b.f, .int .i64 b.d, .int .i8 b.g, .int .i64 b.e] 26)) = w0 at *
  have kHA0 := HA.1.c0
  have kHA1 := HA.1.c1
  have kHA2 := HA.1.c2
  have kHA3 := HA.1.c3
  have kHC0 := HC.1.c0
  have kHC1 := HC.1.c1
  have kHC2 := HC.1.c2
  have kHC3 := HC.1.c3
  go_wp2_with fail
  refine (r1.1 _).mono ?_
  rintro e u1 ⟨rfl, hbl⟩
  clear kHA0 kHA1 kHA2 kHA3 kHC0 kHC1 kHC2 kHC3
  have HB := Kp.mk (HB.1.step hbl)
  have HA := Kp.mk (HA.1.step hbl)
  have HC := Kp.mk (HC.1.step hbl)
  clear hbl
  have kHA0 := HA.1.c0
  have kHA1 := HA.1.c1
  have kHA2 := HA.1.c2
  have kHA3 := HA.1.c3
  have kHC0 := HC.1.c0
  have kHC1 := HC.1.c1
  have kHC2 := HC.1.c2
  have kHC3 := HC.1.c3
  go_wp2_with fail
  go_ret
  exact ⟨rfl, HB.1.below⟩
 ·have r1 := Kp.mk (fun w => begins_is ha hb (decide_eq_false h1) w)
  have r2 := Kp.mk (fun w => begins_is (v := v) hb ha (by rw [← hv, decide_eq_decide]; omega) w)
  clear h1 p3 q3 hv ha hb
  go_enter Tryz.func13, Tryz.ntmps13
  go_upto_region 1 with fail
  generalize ((w.alloc (.cells #[.int .i8 a.f, .int .i64 a.d, .int .i8 a.g, .int .i64 a.e] 26)).alloc (.cells #[.int .i8 b.f, .int .i64 b.d, .int .i8 b.g, .int .i64 b.e] 26)) = w0 at *
  have kHA0 := HA.1.c0
  have kHA1 := HA.1.c1
  have kHA2 := HA.1.c2
  have kHA3 := HA.1.c3
  have kHC0 := HC.1.c0
  have kHC1 := HC.1.c1
  have kHC2 := HC.1.c2
  have kHC3 := HC.1.c3
  go_wp2_with fail
  refine (r1.1 _).mono ?_
  rintro e u1 ⟨rfl, hbl⟩
  clear kHA0 kHA1 kHA2 kHA3 kHC0 kHC1 kHC2 kHC3
  have HB := Kp.mk (HB.1.step hbl)
  have HA := Kp.mk (HA.1.step hbl)
  have HC := Kp.mk (HC.1.step hbl)
  clear hbl
  have kHA0 := HA.1.c0
  have kHA1 := HA.1.c1
  have kHA2 := HA.1.c2
  have kHA3 := HA.1.c3
  have kHC0 := HC.1.c0
  have kHC1 := HC.1.c1
  have kHC2 := HC.1.c2
  have kHC3 := HC.1.c3
  go_wp2_with fail
  refine (r2.1 _).mono ?_
  rintro e u2 ⟨rfl, hbl⟩
  clear kHA0 kHA1 kHA2 kHA3 kHC0 kHC1 kHC2 kHC3
  have HB := Kp.mk (HB.1.step hbl)
  have HA := Kp.mk (HA.1.step hbl)
  have HC := Kp.mk (HC.1.step hbl)
  clear hbl
  have kHA0 := HA.1.c0
  have kHA1 := HA.1.c1
  have kHA2 := HA.1.c2
  have kHA3 := HA.1.c3
  have kHC0 := HC.1.c0
  have kHC1 := HC.1.c1
  have kHC2 := HC.1.c2
  have kHC3 := HC.1.c3
  go_wp2_with fail
  go_ret
  exact ⟨rfl, HB.1.below⟩
set_option maxHeartbeats 2000000 in
theorem refTouch_is {a b : Rn} {v : Bool} (ha : a.Ok) (hb : b.Ok) (hv : decide (a.lo ≤ b.hi + 1 ∧ b.lo ≤ a.hi + 1) = v) (w : World) :
 Calls Tryz.prog 12 #[.agg #[.int .i8 a.f, .int .i64 a.d, .int .i8 a.g, .int .i64 a.e], .agg #[.int .i8 b.f, .int .i64 b.d, .int .i8 b.g, .int .i64 b.e]] w fun x w' => x = .returned (.bool v) ∧ Below w.heap.size w w' := by
 have HA := Kp.mk (rg_two w a b).1
 have HC := Kp.mk (rg_two w a b).2
 have HB := Kp.mk (bl_of HA.1)
 have p3 := ha.pos.le
 have q3 := hb.pos.le
 by_cases h1 : a.lo ≤ b.hi ∧ b.lo ≤ a.hi
 ·have r1 := Kp.mk (fun w => refOver_is ha hb (decide_eq_true h1) w)
  obtain rfl : true = v := by rw [← hv, decide_eq_true_iff.2]; omega
  clear h1 p3 q3 hv ha hb
  go_enter Tryz.func12, Tryz.ntmps12
  go_upto_region 1 with fail
  generalize ((w.alloc (.cells #[.int .i8 a.f, .int .i64 a.d, .int .i8 a.g, .int .i64 a.e] 26)).alloc (.cells #[.int .i8 b.f, .int .i64 b.d, .int .i8 b.g, .int .i64 b.e] 26)) = w0 at *
  have kHA0 := HA.1.c0
  have kHA1 := HA.1.c1
  have kHA2 := HA.1.c2
  have kHA3 := HA.1.c3
  have kHC0 := HC.1.c0
  have kHC1 := HC.1.c1
  have kHC2 := HC.1.c2
  have kHC3 := HC.1.c3
  go_wp2_with fail
  refine (r1.1 _).mono ?_
  rintro e u1 ⟨rfl, hbl⟩
  clear kHA0 kHA1 kHA2 kHA3 kHC0 kHC1 kHC2 kHC3
  have HB := Kp.mk (HB.1.step hbl)
  have HA := Kp.mk (HA.1.step hbl)
  have HC := Kp.mk (HC.1.step hbl)
  clear hbl
  have kHA0 := HA.1.c0
  have kHA1 := HA.1.c1
  have kHA2 := HA.1.c2
  have kHA3 := HA.1.c3
  have kHC0 := HC.1.c0
  have kHC1 := HC.1.c1
  have kHC2 := HC.1.c2
  have kHC3 := HC.1.c3
  go_wp2_with fail
  go_ret
  exact ⟨rfl, HB.1.below⟩
 ·have r1 := Kp.mk (fun w => refOver_is ha hb (decide_eq_false h1) w)
  by_cases h2 : a.hi + 1 = b.lo
  ·have r2 := Kp.mk (fun w => adjacent_is ha hb (decide_eq_true h2) w)
   obtain rfl : true = v := by rw [← hv, decide_eq_true_iff.2]; omega
   clear h1 h2 p3 q3 hv ha hb
   go_enter Tryz.func12, Tryz.ntmps12
   go_upto_region 1 with fail
   generalize ((w.alloc (.cells #[.int .i8 a.f, .int .i64 a.d, .int .i8 a.g, .int .i64 a.e] 26)).alloc (.cells #[.int .i8 b.f, .int .i64 b.d, .int .i8 b.g, .int .i64 b.e] 26)) = w0 at *
   have kHA0 := HA.1.c0
   have kHA1 := HA.1.c1
   have kHA2 := HA.1.c2
   have kHA3 := HA.1.c3
   have kHC0 := HC.1.c0
   have kHC1 := HC.1.c1
   have kHC2 := HC.1.c2
   have kHC3 := HC.1.c3
   go_wp2_with fail
   refine (r1.1 _).mono ?_
   rintro e u1 ⟨rfl, hbl⟩
   clear kHA0 kHA1 kHA2 kHA3 kHC0 kHC1 kHC2 kHC3
   have HB := Kp.mk (HB.1.step hbl)
   have HA := Kp.mk (HA.1.step hbl)
   have HC := Kp.mk (HC.1.step hbl)
   clear hbl
   have kHA0 := HA.1.c0
   have kHA1 := HA.1.c1
   have kHA2 := HA.1.c2
   have kHA3 := HA.1.c3
   have kHC0 := HC.1.c0
   have kHC1 := HC.1.c1
   have kHC2 := HC.1.c2
   have kHC3 := HC.1.c3
   go_wp2_with fail
   refine (r2.1 _).mono ?_
   rintro e u2 ⟨rfl, hbl⟩
   clear kHA0 kHA1 kHA2 kHA3 kHC0 kHC1 kHC2 kHC3
   have HB := Kp.mk (HB.1.step hbl)
   have HA := Kp.mk (HA.1.step hbl)
   have HC := Kp.mk (HC.1.step hbl)
   clear hbl
   have kHA0 := HA.1.c0
   have kHA1 := HA.1.c1
   have kHA2 := HA.1.c2
   have kHA3 := HA.1.c3
   have kHC0 := HC.1.c0
   have kHC1 := HC.1.c1
   have kHC2 := HC.1.c2
   have kHC3 := HC.1.c3
   go_wp2_with fail
   go_ret
   exact ⟨rfl, HB.1.below⟩
  ·have r2 := Kp.mk (fun w => adjacent_is ha hb (decide_eq_false h2) w)
   have r3 := Kp.mk (fun w => adjacent_is (v := v) hb ha (by rw [← hv, decide_eq_decide]; omega) w)
   clear h1 h2 p3 q3 hv ha hb
   go_enter Tryz.func12, Tryz.ntmps12
   go_upto_region 1 with fail
   generalize ((w.alloc (.cells #[.int .i8 a.f, .int .i64 a.d, .int .i8 a.g, .int .i64 a.e] 26)).alloc (.cells #[.int .i8 b.f, .int .i64 b.d, .int .i8 b.g, .int .i64 b.e] 26)) = w0 at *
   have kHA0 := HA.1.c0
   have kHA1 := HA.1.c1
   have kHA2 := HA.1.c2
   have kHA3 := HA.1.c3
   have kHC0 := HC.1.c0
   have kHC1 := HC.1.c1
   have kHC2 := HC.1.c2
   have kHC3 := HC.1.c3
   go_wp2_with fail
   refine (r1.1 _).mono ?_
   rintro e u1 ⟨rfl, hbl⟩
   clear kHA0 kHA1 kHA2 kHA3 kHC0 kHC1 kHC2 kHC3
   have HB := Kp.mk (HB.1.step hbl)
   have HA := Kp.mk (HA.1.step hbl)
   have HC := Kp.mk (HC.1.step hbl)
   clear hbl
   have kHA0 := HA.1.c0
   have kHA1 := HA.1.c1
   have kHA2 := HA.1.c2
   have kHA3 := HA.1.c3
   have kHC0 := HC.1.c0
   have kHC1 := HC.1.c1
   have kHC2 := HC.1.c2
   have kHC3 := HC.1.c3
   go_wp2_with fail
   refine (r2.1 _).mono ?_
   rintro e u2 ⟨rfl, hbl⟩
   clear kHA0 kHA1 kHA2 kHA3 kHC0 kHC1 kHC2 kHC3
   have HB := Kp.mk (HB.1.step hbl)
   have HA := Kp.mk (HA.1.step hbl)
   have HC := Kp.mk (HC.1.step hbl)
   clear hbl
   have kHA0 := HA.1.c0
   have kHA1 := HA.1.c1
   have kHA2 := HA.1.c2
   have kHA3 := HA.1.c3
   have kHC0 := HC.1.c0
   have kHC1 := HC.1.c1
   have kHC2 := HC.1.c2
   have kHC3 := HC.1.c3
   go_wp2_with fail
   refine (r3.1 _).mono ?_
   rintro e u3 ⟨rfl, hbl⟩
   clear kHA0 kHA1 kHA2 kHA3 kHC0 kHC1 kHC2 kHC3
   have HB := Kp.mk (HB.1.step hbl)
   have HA := Kp.mk (HA.1.step hbl)
   have HC := Kp.mk (HC.1.step hbl)
   clear hbl
   have kHA0 := HA.1.c0
   have kHA1 := HA.1.c1
   have kHA2 := HA.1.c2
   have kHA3 := HA.1.c3
   have kHC0 := HC.1.c0
   have kHC1 := HC.1.c1
   have kHC2 := HC.1.c2
   have kHC3 := HC.1.c3
   go_wp2_with fail
   go_ret
   exact ⟨rfl, HB.1.below⟩
set_option maxHeartbeats 2000000 in
theorem refRCmp_is {a b : Rn} {v : Int} (hv : cmpR a b = v) (w : World) :
 Calls Tryz.prog 11 #[.agg #[.int .i8 a.f, .int .i64 a.d, .int .i8 a.g, .int .i64 a.e], .agg #[.int .i8 b.f, .int .i64 b.d, .int .i8 b.g, .int .i64 b.e]] w fun x w' => x = .returned (.int .i64 v) ∧ Below w.heap.size w w' := by
 have HA := Kp.mk (rg_two w a b).1
 have HC := Kp.mk (rg_two w a b).2
 have HB := Kp.mk (bl_of HA.1)
 have hz := cmpE_zero a.f a.d b.f b.d
 unfold cmpR at hv
 by_cases h0 : cmpE a.f a.d b.f b.d = 0
 ·rw [if_pos h0] at hv
  have r1 := Kp.mk (fun w => refECmp_is hv w)
  have e1 : (a.f == b.f) = true := by rw [beq_iff_eq]; exact (hz.1 h0).1
  have e2 : (a.d == b.d) = true := by rw [beq_iff_eq]; exact (hz.1 h0).2
  have e3 : (a.f != b.f) = false := by rw [bne_eq_false_iff_eq]; exact (hz.1 h0).1
  have e4 : (a.d != b.d) = false := by rw [bne_eq_false_iff_eq]; exact (hz.1 h0).2
  clear hz h0 hv
  go_enter Tryz.func11, Tryz.ntmps11
  go_upto_region 1 with fail
  generalize ((w.alloc (.cells #[.int .i8 a.f, .int .i64 a.d, .int .i8 a.g, .int .i64 a.e] 26)).alloc (.cells #[.int .i8 b.f, .int .i64 b.d, .int .i8 b.g, .int .i64 b.e] 26)) = w0 at *
  have kHA0 := HA.1.c0
  have kHA1 := HA.1.c1
  have kHA2 := HA.1.c2
  have kHA3 := HA.1.c3
  have kHC0 := HC.1.c0
  have kHC1 := HC.1.c1
  have kHC2 := HC.1.c2
  have kHC3 := HC.1.c3
  go_wp2_with fail
  refine (r1.1 _).mono ?_
  rintro e u1 ⟨rfl, hbl⟩
  clear kHA0 kHA1 kHA2 kHA3 kHC0 kHC1 kHC2 kHC3
  have HB := Kp.mk (HB.1.step hbl)
  have HA := Kp.mk (HA.1.step hbl)
  have HC := Kp.mk (HC.1.step hbl)
  clear hbl
  have kHA0 := HA.1.c0
  have kHA1 := HA.1.c1
  have kHA2 := HA.1.c2
  have kHA3 := HA.1.c3
  have kHC0 := HC.1.c0
  have kHC1 := HC.1.c1
  have kHC2 := HC.1.c2
  have kHC3 := HC.1.c3
  go_wp2_with fail
  go_ret
  exact ⟨rfl, HB.1.below⟩
 ·rw [if_neg h0] at hv
  have r1 := Kp.mk (fun w => refECmp_is hv w)
  by_cases h1 : a.f = b.f
  ·have e1 : (a.f == b.f) = true := by rw [beq_iff_eq]; exact h1
   have e2 : (a.d == b.d) = false := by rw [beq_eq_false_iff_ne]; intro h; exact h0 (hz.2 ⟨h1, h⟩)
   clear hz h0 hv h1
   go_enter Tryz.func11, Tryz.ntmps11
   go_upto_region 1 with fail
   generalize ((w.alloc (.cells #[.int .i8 a.f, .int .i64 a.d, .int .i8 a.g, .int .i64 a.e] 26)).alloc (.cells #[.int .i8 b.f, .int .i64 b.d, .int .i8 b.g, .int .i64 b.e] 26)) = w0 at *
   have kHA0 := HA.1.c0
   have kHA1 := HA.1.c1
   have kHA2 := HA.1.c2
   have kHA3 := HA.1.c3
   have kHC0 := HC.1.c0
   have kHC1 := HC.1.c1
   have kHC2 := HC.1.c2
   have kHC3 := HC.1.c3
   go_wp2_with fail
   refine (r1.1 _).mono ?_
   rintro e u1 ⟨rfl, hbl⟩
   clear kHA0 kHA1 kHA2 kHA3 kHC0 kHC1 kHC2 kHC3
   have HB := Kp.mk (HB.1.step hbl)
   have HA := Kp.mk (HA.1.step hbl)
   have HC := Kp.mk (HC.1.step hbl)
   clear hbl
   have kHA0 := HA.1.c0
   have kHA1 := HA.1.c1
   have kHA2 := HA.1.c2
   have kHA3 := HA.1.c3
   have kHC0 := HC.1.c0
   have kHC1 := HC.1.c1
   have kHC2 := HC.1.c2
   have kHC3 := HC.1.c3
   go_wp2_with fail
   go_ret
   exact ⟨rfl, HB.1.below⟩
  ·have e1 : (a.f == b.f) = false := by rw [beq_eq_false_iff_ne]; exact h1
   clear hz h0 hv h1
   go_enter Tryz.func11, Tryz.ntmps11
   go_upto_region 1 with fail
   generalize ((w.alloc (.cells #[.int .i8 a.f, .int .i64 a.d, .int .i8 a.g, .int .i64 a.e] 26)).alloc (.cells #[.int .i8 b.f, .int .i64 b.d, .int .i8 b.g, .int .i64 b.e] 26)) = w0 at *
   have kHA0 := HA.1.c0
   have kHA1 := HA.1.c1
   have kHA2 := HA.1.c2
   have kHA3 := HA.1.c3
   have kHC0 := HC.1.c0
   have kHC1 := HC.1.c1
   have kHC2 := HC.1.c2
   have kHC3 := HC.1.c3
   go_wp2_with fail
   refine (r1.1 _).mono ?_
   rintro e u1 ⟨rfl, hbl⟩
   clear kHA0 kHA1 kHA2 kHA3 kHC0 kHC1 kHC2 kHC3
   have HB := Kp.mk (HB.1.step hbl)
   have HA := Kp.mk (HA.1.step hbl)
   have HC := Kp.mk (HC.1.step hbl)
   clear hbl
   have kHA0 := HA.1.c0
   have kHA1 := HA.1.c1
   have kHA2 := HA.1.c2
   have kHA3 := HA.1.c3
   have kHC0 := HC.1.c0
   have kHC1 := HC.1.c1
   have kHC2 := HC.1.c2
   have kHC3 := HC.1.c3
   go_wp2_with fail
   go_ret
   exact ⟨rfl, HB.1.below⟩
end Go.Proofs.YteddfolhpoikcaaGreatDoor
namespace Go.Proofs.YteddfolhpoikcaaGreatDoor
open Go.RowKit
set_option maxRecDepth 100000

set_option maxHeartbeats 4000000 in
theorem refJoin_is {a b v : Rn} (hv : joinN a b = v) (w : World) :
 Calls Tryz.prog 18 #[.agg #[.int .i8 a.f, .int .i64 a.d, .int .i8 a.g, .int .i64 a.e], .agg #[.int .i8 b.f, .int .i64 b.d, .int .i8 b.g, .int .i64 b.e]] w fun x w' => x = .returned (.agg #[.int .i8 v.f, .int .i64 v.d, .int .i8 v.g, .int .i64 v.e]) ∧ Below w.heap.size w w' := by
 have HJ := Kp.mk (jn_new w a b)
 obtain ⟨q1, hq1⟩ : ∃ q, cmpE b.f b.d a.f a.d = q := ⟨_, rfl⟩
 obtain ⟨q2, hq2⟩ : ∃ q, cmpE b.g b.e a.g a.e = q := ⟨_, rfl⟩
 have r1 := Kp.mk (fun w => refECmp_is hq1 w)
 have r2 := Kp.mk (fun w => refECmp_is hq2 w)
 have E1 : v.f = (if q1 < 0 then b.f else a.f) ∧ v.d = (if q1 < 0 then b.d else a.d) := by rw [← hv]; unfold joinN; simp only; rw [hq1]; exact ⟨rfl, rfl⟩
 have E2 : v.g = (if 0 < q2 then b.g else a.g) ∧ v.e = (if 0 < q2 then b.e else a.e) := by rw [← hv]; unfold joinN; simp only; rw [hq2]; exact ⟨rfl, rfl⟩
 clear hv hq1 hq2
 by_cases h1 : q1 < 0
 ·by_cases h2 : 0 < q2
  ·have E1 := Kp.mk (show v.f = b.f ∧ v.d = b.d by rw [if_pos h1, if_pos h1] at E1; exact E1)
   have E2 := Kp.mk (show v.g = b.g ∧ v.e = b.e by rw [if_pos h2, if_pos h2] at E2; exact E2)
   go_enter Tryz.func18, Tryz.ntmps18
   go_upto_region 2 with fail
   generalize (((w.alloc (.cells #[.int .i8 a.f, .int .i64 a.d, .int .i8 a.g, .int .i64 a.e] 26)).alloc (.cells #[.int .i8 b.f, .int .i64 b.d, .int .i8 b.g, .int .i64 b.e] 26)).alloc (.cells #[.int .i8 0, .int .i64 0, .int .i8 0, .int .i64 0] 26)).alloc (.cells #[.int .i8 a.f, .int .i64 a.d, .int .i8 a.g, .int .i64 a.e] 26) = w0 at *
   have kb0 := HJ.1.b.c0
   have kb1 := HJ.1.b.c1
   have kb2 := HJ.1.b.c2
   have kb3 := HJ.1.b.c3
   obtain ⟨kr0, kr1, kr2, kr3⟩ := HJ.1.cells
   have fr0 := HJ.1.frozen 0
   have fr1 := HJ.1.frozen 1
   have fr2 := HJ.1.frozen 2
   have fr3 := HJ.1.frozen 3
   go_wp2_with fail
   refine (r1.1 _).mono ?_
   rintro e u1 ⟨rfl, hbl⟩
   clear kb0 kb1 kb2 kb3 kr0 kr1 kr2 kr3 fr0 fr1 fr2 fr3
   have HJ := Kp.mk (HJ.1.step hbl)
   clear hbl
   have kb0 := HJ.1.b.c0
   have kb1 := HJ.1.b.c1
   have kb2 := HJ.1.b.c2
   have kb3 := HJ.1.b.c3
   obtain ⟨kr0, kr1, kr2, kr3⟩ := HJ.1.cells
   have fr0 := HJ.1.frozen 0
   have fr1 := HJ.1.frozen 1
   have fr2 := HJ.1.frozen 2
   have fr3 := HJ.1.frozen 3
   go_upto_region 4 with fail
   clear kb0 kb1 kb2 kb3 kr0 kr1 kr2 kr3 fr0 fr1 fr2 fr3
   have HJ := Kp.mk (HJ.1.lo b.f b.d)
   have kb0 := HJ.1.b.c0
   have kb1 := HJ.1.b.c1
   have kb2 := HJ.1.b.c2
   have kb3 := HJ.1.b.c3
   obtain ⟨kr0, kr1, kr2, kr3⟩ := HJ.1.cells
   have fr0 := HJ.1.frozen 0
   have fr1 := HJ.1.frozen 1
   have fr2 := HJ.1.frozen 2
   have fr3 := HJ.1.frozen 3
   go_wp2_with fail
   refine (r2.1 _).mono ?_
   rintro e u2 ⟨rfl, hbl⟩
   clear kb0 kb1 kb2 kb3 kr0 kr1 kr2 kr3 fr0 fr1 fr2 fr3
   have HJ := Kp.mk (HJ.1.step hbl)
   clear hbl
   have kb0 := HJ.1.b.c0
   have kb1 := HJ.1.b.c1
   have kb2 := HJ.1.b.c2
   have kb3 := HJ.1.b.c3
   obtain ⟨kr0, kr1, kr2, kr3⟩ := HJ.1.cells
   have fr0 := HJ.1.frozen 0
   have fr1 := HJ.1.frozen 1
   have fr2 := HJ.1.frozen 2
   have fr3 := HJ.1.frozen 3
   go_upto_region 6 with fail
   clear kb0 kb1 kb2 kb3 kr0 kr1 kr2 kr3 fr0 fr1 fr2 fr3
   have HJ := Kp.mk (HJ.1.hi b.g b.e)
   have kb0 := HJ.1.b.c0
   have kb1 := HJ.1.b.c1
   have kb2 := HJ.1.b.c2
   have kb3 := HJ.1.b.c3
   obtain ⟨kr0, kr1, kr2, kr3⟩ := HJ.1.cells
   have fr0 := HJ.1.frozen 0
   have fr1 := HJ.1.frozen 1
   have fr2 := HJ.1.frozen 2
   have fr3 := HJ.1.frozen 3
   go_wp2_with (first
    | refine wpList_store_row' rfl 26 (.tmp 4) (.tmp 25) rfl (w.heap.size + 1 + 1) #[.int .i8 b.f, .int .i64 b.d, .int .i8 b.g, .int .i64 b.e] rfl rfl 26 #[.int .i8 0, .int .i64 0, .int .i8 0, .int .i64 0] HJ.1.z infoRn rfl (four_rn _ _ _ _) ?_)
   refine bodyPost_ret (results_cell_row (p := 4) (ty := 26) rfl _ _ (w.heap.size + 1 + 1) 26 #[.int .i8 b.f, .int .i64 b.d, .int .i8 b.g, .int .i64 b.e] (0, 0) _ rfl (setRow_heap _ _ _ _ _ _ HJ.1.z) Tryz.underlying26 rfl infoRn) rfl ?_
   exact ⟨by rw [E1.1.1, E1.1.2, E2.1.1, E2.1.2], below_setRow HJ.1.below (Nat.le_add_right _ (1 + 1)) _⟩
  ·have E1 := Kp.mk (show v.f = b.f ∧ v.d = b.d by rw [if_pos h1, if_pos h1] at E1; exact E1)
   have E2 := Kp.mk (show v.g = a.g ∧ v.e = a.e by rw [if_neg h2, if_neg h2] at E2; exact E2)
   go_enter Tryz.func18, Tryz.ntmps18
   go_upto_region 2 with fail
   generalize (((w.alloc (.cells #[.int .i8 a.f, .int .i64 a.d, .int .i8 a.g, .int .i64 a.e] 26)).alloc (.cells #[.int .i8 b.f, .int .i64 b.d, .int .i8 b.g, .int .i64 b.e] 26)).alloc (.cells #[.int .i8 0, .int .i64 0, .int .i8 0, .int .i64 0] 26)).alloc (.cells #[.int .i8 a.f, .int .i64 a.d, .int .i8 a.g, .int .i64 a.e] 26) = w0 at *
   have kb0 := HJ.1.b.c0
   have kb1 := HJ.1.b.c1
   have kb2 := HJ.1.b.c2
   have kb3 := HJ.1.b.c3
   obtain ⟨kr0, kr1, kr2, kr3⟩ := HJ.1.cells
   have fr0 := HJ.1.frozen 0
   have fr1 := HJ.1.frozen 1
   have fr2 := HJ.1.frozen 2
   have fr3 := HJ.1.frozen 3
   go_wp2_with fail
   refine (r1.1 _).mono ?_
   rintro e u1 ⟨rfl, hbl⟩
   clear kb0 kb1 kb2 kb3 kr0 kr1 kr2 kr3 fr0 fr1 fr2 fr3
   have HJ := Kp.mk (HJ.1.step hbl)
   clear hbl
   have kb0 := HJ.1.b.c0
   have kb1 := HJ.1.b.c1
   have kb2 := HJ.1.b.c2
   have kb3 := HJ.1.b.c3
   obtain ⟨kr0, kr1, kr2, kr3⟩ := HJ.1.cells
   have fr0 := HJ.1.frozen 0
   have fr1 := HJ.1.frozen 1
   have fr2 := HJ.1.frozen 2
   have fr3 := HJ.1.frozen 3
   go_upto_region 4 with fail
   clear kb0 kb1 kb2 kb3 kr0 kr1 kr2 kr3 fr0 fr1 fr2 fr3
   have HJ := Kp.mk (HJ.1.lo b.f b.d)
   have kb0 := HJ.1.b.c0
   have kb1 := HJ.1.b.c1
   have kb2 := HJ.1.b.c2
   have kb3 := HJ.1.b.c3
   obtain ⟨kr0, kr1, kr2, kr3⟩ := HJ.1.cells
   have fr0 := HJ.1.frozen 0
   have fr1 := HJ.1.frozen 1
   have fr2 := HJ.1.frozen 2
   have fr3 := HJ.1.frozen 3
   go_wp2_with fail
   refine (r2.1 _).mono ?_
   rintro e u2 ⟨rfl, hbl⟩
   clear kb0 kb1 kb2 kb3 kr0 kr1 kr2 kr3 fr0 fr1 fr2 fr3
   have HJ := Kp.mk (HJ.1.step hbl)
   clear hbl
   have kb0 := HJ.1.b.c0
   have kb1 := HJ.1.b.c1
   have kb2 := HJ.1.b.c2
   have kb3 := HJ.1.b.c3
   obtain ⟨kr0, kr1, kr2, kr3⟩ := HJ.1.cells
   have fr0 := HJ.1.frozen 0
   have fr1 := HJ.1.frozen 1
   have fr2 := HJ.1.frozen 2
   have fr3 := HJ.1.frozen 3
   go_upto_region 6 with fail
   go_wp2_with (first
    | refine wpList_store_row' rfl 26 (.tmp 4) (.tmp 25) rfl (w.heap.size + 1 + 1) #[.int .i8 b.f, .int .i64 b.d, .int .i8 a.g, .int .i64 a.e] rfl rfl 26 #[.int .i8 0, .int .i64 0, .int .i8 0, .int .i64 0] HJ.1.z infoRn rfl (four_rn _ _ _ _) ?_)
   refine bodyPost_ret (results_cell_row (p := 4) (ty := 26) rfl _ _ (w.heap.size + 1 + 1) 26 #[.int .i8 b.f, .int .i64 b.d, .int .i8 a.g, .int .i64 a.e] (0, 0) _ rfl (setRow_heap _ _ _ _ _ _ HJ.1.z) Tryz.underlying26 rfl infoRn) rfl ?_
   exact ⟨by rw [E1.1.1, E1.1.2, E2.1.1, E2.1.2], below_setRow HJ.1.below (Nat.le_add_right _ (1 + 1)) _⟩
 ·by_cases h2 : 0 < q2
  ·have E1 := Kp.mk (show v.f = a.f ∧ v.d = a.d by rw [if_neg h1, if_neg h1] at E1; exact E1)
   have E2 := Kp.mk (show v.g = b.g ∧ v.e = b.e by rw [if_pos h2, if_pos h2] at E2; exact E2)
   go_enter Tryz.func18, Tryz.ntmps18
   go_upto_region 2 with fail
   generalize (((w.alloc (.cells #[.int .i8 a.f, .int .i64 a.d, .int .i8 a.g, .int .i64 a.e] 26)).alloc (.cells #[.int .i8 b.f, .int .i64 b.d, .int .i8 b.g, .int .i64 b.e] 26)).alloc (.cells #[.int .i8 0, .int .i64 0, .int .i8 0, .int .i64 0] 26)).alloc (.cells #[.int .i8 a.f, .int .i64 a.d, .int .i8 a.g, .int .i64 a.e] 26) = w0 at *
   have kb0 := HJ.1.b.c0
   have kb1 := HJ.1.b.c1
   have kb2 := HJ.1.b.c2
   have kb3 := HJ.1.b.c3
   obtain ⟨kr0, kr1, kr2, kr3⟩ := HJ.1.cells
   have fr0 := HJ.1.frozen 0
   have fr1 := HJ.1.frozen 1
   have fr2 := HJ.1.frozen 2
   have fr3 := HJ.1.frozen 3
   go_wp2_with fail
   refine (r1.1 _).mono ?_
   rintro e u1 ⟨rfl, hbl⟩
   clear kb0 kb1 kb2 kb3 kr0 kr1 kr2 kr3 fr0 fr1 fr2 fr3
   have HJ := Kp.mk (HJ.1.step hbl)
   clear hbl
   have kb0 := HJ.1.b.c0
   have kb1 := HJ.1.b.c1
   have kb2 := HJ.1.b.c2
   have kb3 := HJ.1.b.c3
   obtain ⟨kr0, kr1, kr2, kr3⟩ := HJ.1.cells
   have fr0 := HJ.1.frozen 0
   have fr1 := HJ.1.frozen 1
   have fr2 := HJ.1.frozen 2
   have fr3 := HJ.1.frozen 3
   go_upto_region 4 with fail
   go_wp2_with fail
   refine (r2.1 _).mono ?_
   rintro e u2 ⟨rfl, hbl⟩
   clear kb0 kb1 kb2 kb3 kr0 kr1 kr2 kr3 fr0 fr1 fr2 fr3
   have HJ := Kp.mk (HJ.1.step hbl)
   clear hbl
   have kb0 := HJ.1.b.c0
   have kb1 := HJ.1.b.c1
   have kb2 := HJ.1.b.c2
   have kb3 := HJ.1.b.c3
   obtain ⟨kr0, kr1, kr2, kr3⟩ := HJ.1.cells
   have fr0 := HJ.1.frozen 0
   have fr1 := HJ.1.frozen 1
   have fr2 := HJ.1.frozen 2
   have fr3 := HJ.1.frozen 3
   go_upto_region 6 with fail
   clear kb0 kb1 kb2 kb3 kr0 kr1 kr2 kr3 fr0 fr1 fr2 fr3
   have HJ := Kp.mk (HJ.1.hi b.g b.e)
   have kb0 := HJ.1.b.c0
   have kb1 := HJ.1.b.c1
   have kb2 := HJ.1.b.c2
   have kb3 := HJ.1.b.c3
   obtain ⟨kr0, kr1, kr2, kr3⟩ := HJ.1.cells
   have fr0 := HJ.1.frozen 0
   have fr1 := HJ.1.frozen 1
   have fr2 := HJ.1.frozen 2
   have fr3 := HJ.1.frozen 3
   go_wp2_with (first
    | refine wpList_store_row' rfl 26 (.tmp 4) (.tmp 25) rfl (w.heap.size + 1 + 1) #[.int .i8 a.f, .int .i64 a.d, .int .i8 b.g, .int .i64 b.e] rfl rfl 26 #[.int .i8 0, .int .i64 0, .int .i8 0, .int .i64 0] HJ.1.z infoRn rfl (four_rn _ _ _ _) ?_)
   refine bodyPost_ret (results_cell_row (p := 4) (ty := 26) rfl _ _ (w.heap.size + 1 + 1) 26 #[.int .i8 a.f, .int .i64 a.d, .int .i8 b.g, .int .i64 b.e] (0, 0) _ rfl (setRow_heap _ _ _ _ _ _ HJ.1.z) Tryz.underlying26 rfl infoRn) rfl ?_
   exact ⟨by rw [E1.1.1, E1.1.2, E2.1.1, E2.1.2], below_setRow HJ.1.below (Nat.le_add_right _ (1 + 1)) _⟩
  ·have E1 := Kp.mk (show v.f = a.f ∧ v.d = a.d by rw [if_neg h1, if_neg h1] at E1; exact E1)
   have E2 := Kp.mk (show v.g = a.g ∧ v.e = a.e by rw [if_neg h2, if_neg h2] at E2; exact E2)
   go_enter Tryz.func18, Tryz.ntmps18
   go_upto_region 2 with fail
   generalize (((w.alloc (.cells #[.int .i8 a.f, .int .i64 a.d, .int .i8 a.g, .int .i64 a.e] 26)).alloc (.cells #[.int .i8 b.f, .int .i64 b.d, .int .i8 b.g, .int .i64 b.e] 26)).alloc (.cells #[.int .i8 0, .int .i64 0, .int .i8 0, .int .i64 0] 26)).alloc (.cells #[.int .i8 a.f, .int .i64 a.d, .int .i8 a.g, .int .i64 a.e] 26) = w0 at *
   have kb0 := HJ.1.b.c0
   have kb1 := HJ.1.b.c1
   have kb2 := HJ.1.b.c2
   have kb3 := HJ.1.b.c3
   obtain ⟨kr0, kr1, kr2, kr3⟩ := HJ.1.cells
   have fr0 := HJ.1.frozen 0
   have fr1 := HJ.1.frozen 1
   have fr2 := HJ.1.frozen 2
   have fr3 := HJ.1.frozen 3
   go_wp2_with fail
   refine (r1.1 _).mono ?_
   rintro e u1 ⟨rfl, hbl⟩
   clear kb0 kb1 kb2 kb3 kr0 kr1 kr2 kr3 fr0 fr1 fr2 fr3
   have HJ := Kp.mk (HJ.1.step hbl)
   clear hbl
   have kb0 := HJ.1.b.c0
   have kb1 := HJ.1.b.c1
   have kb2 := HJ.1.b.c2
   have kb3 := HJ.1.b.c3
   obtain ⟨kr0, kr1, kr2, kr3⟩ := HJ.1.cells
   have fr0 := HJ.1.frozen 0
   have fr1 := HJ.1.frozen 1
   have fr2 := HJ.1.frozen 2
   have fr3 := HJ.1.frozen 3
   go_upto_region 4 with fail
   go_wp2_with fail
   refine (r2.1 _).mono ?_
   rintro e u2 ⟨rfl, hbl⟩
   clear kb0 kb1 kb2 kb3 kr0 kr1 kr2 kr3 fr0 fr1 fr2 fr3
   have HJ := Kp.mk (HJ.1.step hbl)
   clear hbl
   have kb0 := HJ.1.b.c0
   have kb1 := HJ.1.b.c1
   have kb2 := HJ.1.b.c2
   have kb3 := HJ.1.b.c3
   obtain ⟨kr0, kr1, kr2, kr3⟩ := HJ.1.cells
   have fr0 := HJ.1.frozen 0
   have fr1 := HJ.1.frozen 1
   have fr2 := HJ.1.frozen 2
   have fr3 := HJ.1.frozen 3
   go_upto_region 6 with fail
   go_wp2_with (first
    | refine wpList_store_row' rfl 26 (.tmp 4) (.tmp 25) rfl (w.heap.size + 1 + 1) #[.int .i8 a.f, .int .i64 a.d, .int .i8 a.g, .int .i64 a.e] rfl rfl 26 #[.int .i8 0, .int .i64 0, .int .i8 0, .int .i64 0] HJ.1.z infoRn rfl (four_rn _ _ _ _) ?_)
   refine bodyPost_ret (results_cell_row (p := 4) (ty := 26) rfl _ _ (w.heap.size + 1 + 1) 26 #[.int .i8 a.f, .int .i64 a.d, .int .i8 a.g, .int .i64 a.e] (0, 0) _ rfl (setRow_heap _ _ _ _ _ _ HJ.1.z) Tryz.underlying26 rfl infoRn) rfl ?_
   exact ⟨by rw [E1.1.1, E1.1.2, E2.1.1, E2.1.2], below_setRow HJ.1.below (Nat.le_add_right _ (1 + 1)) _⟩
set_option maxHeartbeats 4000000 in
theorem refComm_is {a b v : Rn} (hv : commN a b = v) (w : World) :
 Calls Tryz.prog 19 #[.agg #[.int .i8 a.f, .int .i64 a.d, .int .i8 a.g, .int .i64 a.e], .agg #[.int .i8 b.f, .int .i64 b.d, .int .i8 b.g, .int .i64 b.e]] w fun x w' => x = .returned (.agg #[.int .i8 v.f, .int .i64 v.d, .int .i8 v.g, .int .i64 v.e]) ∧ Below w.heap.size w w' := by
 have HJ := Kp.mk (jn_new w a b)
 obtain ⟨q1, hq1⟩ : ∃ q, cmpE b.f b.d a.f a.d = q := ⟨_, rfl⟩
 obtain ⟨q2, hq2⟩ : ∃ q, cmpE b.g b.e a.g a.e = q := ⟨_, rfl⟩
 have r1 := Kp.mk (fun w => refECmp_is hq1 w)
 have r2 := Kp.mk (fun w => refECmp_is hq2 w)
 have E1 : v.f = (if 0 < q1 then b.f else a.f) ∧ v.d = (if 0 < q1 then b.d else a.d) := by rw [← hv]; unfold commN; simp only; rw [hq1]; exact ⟨rfl, rfl⟩
 have E2 : v.g = (if q2 < 0 then b.g else a.g) ∧ v.e = (if q2 < 0 then b.e else a.e) := by rw [← hv]; unfold commN; simp only; rw [hq2]; exact ⟨rfl, rfl⟩
 clear hv hq1 hq2
 by_cases h1 : 0 < q1
 ·by_cases h2 : q2 < 0
  ·have E1 := Kp.mk (show v.f = b.f ∧ v.d = b.d by rw [if_pos h1, if_pos h1] at E1; exact E1)
   have E2 := Kp.mk (show v.g = b.g ∧ v.e = b.e by rw [if_pos h2, if_pos h2] at E2; exact E2)
   go_enter Tryz.func19, Tryz.ntmps19
   go_upto_region 2 with fail
   generalize (((w.alloc (.cells #[.int .i8 a.f, .int .i64 a.d, .int .i8 a.g, .int .i64 a.e] 26)).alloc (.cells #[.int .i8 b.f, .int .i64 b.d, .int .i8 b.g, .int .i64 b.e] 26)).alloc (.cells #[.int .i8 0, .int .i64 0, .int .i8 0, .int .i64 0] 26)).alloc (.cells #[.int .i8 a.f, .int .i64 a.d, .int .i8 a.g, .int .i64 a.e] 26) = w0 at *
   have kb0 := HJ.1.b.c0
   have kb1 := HJ.1.b.c1
   have kb2 := HJ.1.b.c2
   have kb3 := HJ.1.b.c3
   obtain ⟨kr0, kr1, kr2, kr3⟩ := HJ.1.cells
   have fr0 := HJ.1.frozen 0
   have fr1 := HJ.1.frozen 1
   have fr2 := HJ.1.frozen 2
   have fr3 := HJ.1.frozen 3
   go_wp2_with fail
   refine (r1.1 _).mono ?_
   rintro e u1 ⟨rfl, hbl⟩
   clear kb0 kb1 kb2 kb3 kr0 kr1 kr2 kr3 fr0 fr1 fr2 fr3
   have HJ := Kp.mk (HJ.1.step hbl)
   clear hbl
   have kb0 := HJ.1.b.c0
   have kb1 := HJ.1.b.c1
   have kb2 := HJ.1.b.c2
   have kb3 := HJ.1.b.c3
   obtain ⟨kr0, kr1, kr2, kr3⟩ := HJ.1.cells
   have fr0 := HJ.1.frozen 0
   have fr1 := HJ.1.frozen 1
   have fr2 := HJ.1.frozen 2
   have fr3 := HJ.1.frozen 3
   go_upto_region 4 with fail
   clear kb0 kb1 kb2 kb3 kr0 kr1 kr2 kr3 fr0 fr1 fr2 fr3
   have HJ := Kp.mk (HJ.1.lo b.f b.d)
   have kb0 := HJ.1.b.c0
   have kb1 := HJ.1.b.c1
   have kb2 := HJ.1.b.c2
   have kb3 := HJ.1.b.c3
   obtain ⟨kr0, kr1, kr2, kr3⟩ := HJ.1.cells
   have fr0 := HJ.1.frozen 0
   have fr1 := HJ.1.frozen 1
   have fr2 := HJ.1.frozen 2
   have fr3 := HJ.1.frozen 3
   go_wp2_with fail
   refine (r2.1 _).mono ?_
   rintro e u2 ⟨rfl, hbl⟩
   clear kb0 kb1 kb2 kb3 kr0 kr1 kr2 kr3 fr0 fr1 fr2 fr3
   have HJ := Kp.mk (HJ.1.step hbl)
   clear hbl
   have kb0 := HJ.1.b.c0
   have kb1 := HJ.1.b.c1
   have kb2 := HJ.1.b.c2
   have kb3 := HJ.1.b.c3
   obtain ⟨kr0, kr1, kr2, kr3⟩ := HJ.1.cells
   have fr0 := HJ.1.frozen 0
   have fr1 := HJ.1.frozen 1
   have fr2 := HJ.1.frozen 2
   have fr3 := HJ.1.frozen 3
   go_upto_region 6 with fail
   clear kb0 kb1 kb2 kb3 kr0 kr1 kr2 kr3 fr0 fr1 fr2 fr3
   have HJ := Kp.mk (HJ.1.hi b.g b.e)
   have kb0 := HJ.1.b.c0
   have kb1 := HJ.1.b.c1
   have kb2 := HJ.1.b.c2
   have kb3 := HJ.1.b.c3
   obtain ⟨kr0, kr1, kr2, kr3⟩ := HJ.1.cells
   have fr0 := HJ.1.frozen 0
   have fr1 := HJ.1.frozen 1
   have fr2 := HJ.1.frozen 2
   have fr3 := HJ.1.frozen 3
   go_wp2_with (first
    | refine wpList_store_row' rfl 26 (.tmp 4) (.tmp 25) rfl (w.heap.size + 1 + 1) #[.int .i8 b.f, .int .i64 b.d, .int .i8 b.g, .int .i64 b.e] rfl rfl 26 #[.int .i8 0, .int .i64 0, .int .i8 0, .int .i64 0] HJ.1.z infoRn rfl (four_rn _ _ _ _) ?_)
   refine bodyPost_ret (results_cell_row (p := 4) (ty := 26) rfl _ _ (w.heap.size + 1 + 1) 26 #[.int .i8 b.f, .int .i64 b.d, .int .i8 b.g, .int .i64 b.e] (0, 0) _ rfl (setRow_heap _ _ _ _ _ _ HJ.1.z) Tryz.underlying26 rfl infoRn) rfl ?_
   exact ⟨by rw [E1.1.1, E1.1.2, E2.1.1, E2.1.2], below_setRow HJ.1.below (Nat.le_add_right _ (1 + 1)) _⟩
  ·have E1 := Kp.mk (show v.f = b.f ∧ v.d = b.d by rw [if_pos h1, if_pos h1] at E1; exact E1)
   have E2 := Kp.mk (show v.g = a.g ∧ v.e = a.e by rw [if_neg h2, if_neg h2] at E2; exact E2)
   go_enter Tryz.func19, Tryz.ntmps19
   go_upto_region 2 with fail
   generalize (((w.alloc (.cells #[.int .i8 a.f, .int .i64 a.d, .int .i8 a.g, .int .i64 a.e] 26)).alloc (.cells #[.int .i8 b.f, .int .i64 b.d, .int .i8 b.g, .int .i64 b.e] 26)).alloc (.cells #[.int .i8 0, .int .i64 0, .int .i8 0, .int .i64 0] 26)).alloc (.cells #[.int .i8 a.f, .int .i64 a.d, .int .i8 a.g, .int .i64 a.e] 26) = w0 at *
   have kb0 := HJ.1.b.c0
   have kb1 := HJ.1.b.c1
   have kb2 := HJ.1.b.c2
   have kb3 := HJ.1.b.c3
   obtain ⟨kr0, kr1, kr2, kr3⟩ := HJ.1.cells
   have fr0 := HJ.1.frozen 0
   have fr1 := HJ.1.frozen 1
   have fr2 := HJ.1.frozen 2
   have fr3 := HJ.1.frozen 3
   go_wp2_with fail
   refine (r1.1 _).mono ?_
   rintro e u1 ⟨rfl, hbl⟩
   clear kb0 kb1 kb2 kb3 kr0 kr1 kr2 kr3 fr0 fr1 fr2 fr3
   have HJ := Kp.mk (HJ.1.step hbl)
   clear hbl
   have kb0 := HJ.1.b.c0
   have kb1 := HJ.1.b.c1
   have kb2 := HJ.1.b.c2
   have kb3 := HJ.1.b.c3
   obtain ⟨kr0, kr1, kr2, kr3⟩ := HJ.1.cells
   have fr0 := HJ.1.frozen 0
   have fr1 := HJ.1.frozen 1
   have fr2 := HJ.1.frozen 2
   have fr3 := HJ.1.frozen 3
   go_upto_region 4 with fail
   clear kb0 kb1 kb2 kb3 kr0 kr1 kr2 kr3 fr0 fr1 fr2 fr3
   have HJ := Kp.mk (HJ.1.lo b.f b.d)
   have kb0 := HJ.1.b.c0
   have kb1 := HJ.1.b.c1
   have kb2 := HJ.1.b.c2
   have kb3 := HJ.1.b.c3
   obtain ⟨kr0, kr1, kr2, kr3⟩ := HJ.1.cells
   have fr0 := HJ.1.frozen 0
   have fr1 := HJ.1.frozen 1
   have fr2 := HJ.1.frozen 2
   have fr3 := HJ.1.frozen 3
   go_wp2_with fail
   refine (r2.1 _).mono ?_
   rintro e u2 ⟨rfl, hbl⟩
   clear kb0 kb1 kb2 kb3 kr0 kr1 kr2 kr3 fr0 fr1 fr2 fr3
   have HJ := Kp.mk (HJ.1.step hbl)
   clear hbl
   have kb0 := HJ.1.b.c0
   have kb1 := HJ.1.b.c1
   have kb2 := HJ.1.b.c2
   have kb3 := HJ.1.b.c3
   obtain ⟨kr0, kr1, kr2, kr3⟩ := HJ.1.cells
   have fr0 := HJ.1.frozen 0
   have fr1 := HJ.1.frozen 1
   have fr2 := HJ.1.frozen 2
   have fr3 := HJ.1.frozen 3
   go_upto_region 6 with fail
   go_wp2_with (first
    | refine wpList_store_row' rfl 26 (.tmp 4) (.tmp 25) rfl (w.heap.size + 1 + 1) #[.int .i8 b.f, .int .i64 b.d, .int .i8 a.g, .int .i64 a.e] rfl rfl 26 #[.int .i8 0, .int .i64 0, .int .i8 0, .int .i64 0] HJ.1.z infoRn rfl (four_rn _ _ _ _) ?_)
   refine bodyPost_ret (results_cell_row (p := 4) (ty := 26) rfl _ _ (w.heap.size + 1 + 1) 26 #[.int .i8 b.f, .int .i64 b.d, .int .i8 a.g, .int .i64 a.e] (0, 0) _ rfl (setRow_heap _ _ _ _ _ _ HJ.1.z) Tryz.underlying26 rfl infoRn) rfl ?_
   exact ⟨by rw [E1.1.1, E1.1.2, E2.1.1, E2.1.2], below_setRow HJ.1.below (Nat.le_add_right _ (1 + 1)) _⟩
 ·by_cases h2 : q2 < 0
  ·have E1 := Kp.mk (show v.f = a.f ∧ v.d = a.d by rw [if_neg h1, if_neg h1] at E1; exact E1)
   have E2 := Kp.mk (show v.g = b.g ∧ v.e = b.e by rw [if_pos h2, if_pos h2] at E2; exact E2)
   go_enter Tryz.func19, Tryz.ntmps19
   go_upto_region 2 with fail
   generalize (((w.alloc (.cells #[.int .i8 a.f, .int .i64 a.d, .int .i8 a.g, .int .i64 a.e] 26)).alloc (.cells #[.int .i8 b.f, .int .i64 b.d, .int .i8 b.g, .int .i64 b.e] 26)).alloc (.cells #[.int .i8 0, .int .i64 0, .int .i8 0, .int .i64 0] 26)).alloc (.cells #[.int .i8 a.f, .int .i64 a.d, .int .i8 a.g, .int .i64 a.e] 26) = w0 at *
   have kb0 := HJ.1.b.c0
   have kb1 := HJ.1.b.c1
   have kb2 := HJ.1.b.c2
   have kb3 := HJ.1.b.c3
   obtain ⟨kr0, kr1, kr2, kr3⟩ := HJ.1.cells
   have fr0 := HJ.1.frozen 0
   have fr1 := HJ.1.frozen 1
   have fr2 := HJ.1.frozen 2
   have fr3 := HJ.1.frozen 3
   go_wp2_with fail
   refine (r1.1 _).mono ?_
   rintro e u1 ⟨rfl, hbl⟩
   clear kb0 kb1 kb2 kb3 kr0 kr1 kr2 kr3 fr0 fr1 fr2 fr3
   have HJ := Kp.mk (HJ.1.step hbl)
   clear hbl
   have kb0 := HJ.1.b.c0
   have kb1 := HJ.1.b.c1
   have kb2 := HJ.1.b.c2
   have kb3 := HJ.1.b.c3
   obtain ⟨kr0, kr1, kr2, kr3⟩ := HJ.1.cells
   have fr0 := HJ.1.frozen 0
   have fr1 := HJ.1.frozen 1
   have fr2 := HJ.1.frozen 2
   have fr3 := HJ.1.frozen 3
   go_upto_region 4 with fail
   go_wp2_with fail
   refine (r2.1 _).mono ?_
   rintro e u2 ⟨rfl, hbl⟩
   clear kb0 kb1 kb2 kb3 kr0 kr1 kr2 kr3 fr0 fr1 fr2 fr3
   have HJ := Kp.mk (HJ.1.step hbl)
   clear hbl
   have kb0 := HJ.1.b.c0
   have kb1 := HJ.1.b.c1
   have kb2 := HJ.1.b.c2
   have kb3 := HJ.1.b.c3
   obtain ⟨kr0, kr1, kr2, kr3⟩ := HJ.1.cells
   have fr0 := HJ.1.frozen 0
   have fr1 := HJ.1.frozen 1
   have fr2 := HJ.1.frozen 2
   have fr3 := HJ.1.frozen 3
   go_upto_region 6 with fail
   clear kb0 kb1 kb2 kb3 kr0 kr1 kr2 kr3 fr0 fr1 fr2 fr3
   have HJ := Kp.mk (HJ.1.hi b.g b.e)
   have kb0 := HJ.1.b.c0
   have kb1 := HJ.1.b.c1
   have kb2 := HJ.1.b.c2
   have kb3 := HJ.1.b.c3
   obtain ⟨kr0, kr1, kr2, kr3⟩ := HJ.1.cells
   have fr0 := HJ.1.frozen 0
   have fr1 := HJ.1.frozen 1
   have fr2 := HJ.1.frozen 2
   have fr3 := HJ.1.frozen 3
   go_wp2_with (first
    | refine wpList_store_row' rfl 26 (.tmp 4) (.tmp 25) rfl (w.heap.size + 1 + 1) #[.int .i8 a.f, .int .i64 a.d, .int .i8 b.g, .int .i64 b.e] rfl rfl 26 #[.int .i8 0, .int .i64 0, .int .i8 0, .int .i64 0] HJ.1.z infoRn rfl (four_rn _ _ _ _) ?_)
   refine bodyPost_ret (results_cell_row (p := 4) (ty := 26) rfl _ _ (w.heap.size + 1 + 1) 26 #[.int .i8 a.f, .int .i64 a.d, .int .i8 b.g, .int .i64 b.e] (0, 0) _ rfl (setRow_heap _ _ _ _ _ _ HJ.1.z) Tryz.underlying26 rfl infoRn) rfl ?_
   exact ⟨by rw [E1.1.1, E1.1.2, E2.1.1, E2.1.2], below_setRow HJ.1.below (Nat.le_add_right _ (1 + 1)) _⟩
  ·have E1 := Kp.mk (show v.f = a.f ∧ v.d = a.d by rw [if_neg h1, if_neg h1] at E1; exact E1)
   have E2 := Kp.mk (show v.g = a.g ∧ v.e = a.e by rw [if_neg h2, if_neg h2] at E2; exact E2)
   go_enter Tryz.func19, Tryz.ntmps19
   go_upto_region 2 with fail
   generalize (((w.alloc (.cells #[.int .i8 a.f, .int .i64 a.d, .int .i8 a.g, .int .i64 a.e] 26)).alloc (.cells #[.int .i8 b.f, .int .i64 b.d, .int .i8 b.g, .int .i64 b.e] 26)).alloc (.cells #[.int .i8 0, .int .i64 0, .int .i8 0, .int .i64 0] 26)).alloc (.cells #[.int .i8 a.f, .int .i64 a.d, .int .i8 a.g, .int .i64 a.e] 26) = w0 at *
   have kb0 := HJ.1.b.c0
   have kb1 := HJ.1.b.c1
   have kb2 := HJ.1.b.c2
   have kb3 := HJ.1.b.c3
   obtain ⟨kr0, kr1, kr2, kr3⟩ := HJ.1.cells
   have fr0 := HJ.1.frozen 0
   have fr1 := HJ.1.frozen 1
   have fr2 := HJ.1.frozen 2
   have fr3 := HJ.1.frozen 3
   go_wp2_with fail
   refine (r1.1 _).mono ?_
   rintro e u1 ⟨rfl, hbl⟩
   clear kb0 kb1 kb2 kb3 kr0 kr1 kr2 kr3 fr0 fr1 fr2 fr3
   have HJ := Kp.mk (HJ.1.step hbl)
   clear hbl
   have kb0 := HJ.1.b.c0
   have kb1 := HJ.1.b.c1
   have kb2 := HJ.1.b.c2
   have kb3 := HJ.1.b.c3
   obtain ⟨kr0, kr1, kr2, kr3⟩ := HJ.1.cells
   have fr0 := HJ.1.frozen 0
   have fr1 := HJ.1.frozen 1
   have fr2 := HJ.1.frozen 2
   have fr3 := HJ.1.frozen 3
   go_upto_region 4 with fail
   go_wp2_with fail
   refine (r2.1 _).mono ?_
   rintro e u2 ⟨rfl, hbl⟩
   clear kb0 kb1 kb2 kb3 kr0 kr1 kr2 kr3 fr0 fr1 fr2 fr3
   have HJ := Kp.mk (HJ.1.step hbl)
   clear hbl
   have kb0 := HJ.1.b.c0
   have kb1 := HJ.1.b.c1
   have kb2 := HJ.1.b.c2
   have kb3 := HJ.1.b.c3
   obtain ⟨kr0, kr1, kr2, kr3⟩ := HJ.1.cells
   have fr0 := HJ.1.frozen 0
   have fr1 := HJ.1.frozen 1
   have fr2 := HJ.1.frozen 2
   have fr3 := HJ.1.frozen 3
   go_upto_region 6 with fail
   go_wp2_with (first
    | refine wpList_store_row' rfl 26 (.tmp 4) (.tmp 25) rfl (w.heap.size + 1 + 1) #[.int .i8 a.f, .int .i64 a.d, .int .i8 a.g, .int .i64 a.e] rfl rfl 26 #[.int .i8 0, .int .i64 0, .int .i8 0, .int .i64 0] HJ.1.z infoRn rfl (four_rn _ _ _ _) ?_)
   refine bodyPost_ret (results_cell_row (p := 4) (ty := 26) rfl _ _ (w.heap.size + 1 + 1) 26 #[.int .i8 a.f, .int .i64 a.d, .int .i8 a.g, .int .i64 a.e] (0, 0) _ rfl (setRow_heap _ _ _ _ _ _ HJ.1.z) Tryz.underlying26 rfl infoRn) rfl ?_
   exact ⟨by rw [E1.1.1, E1.1.2, E2.1.1, E2.1.2], below_setRow HJ.1.below (Nat.le_add_right _ (1 + 1)) _⟩
end Go.Proofs.YteddfolhpoikcaaGreatDoor
namespace Go.Proofs.YteddfolhpoikcaaGreatDoor
open Go.RowKit
set_option maxRecDepth 100000

set_option maxHeartbeats 4000000 in
theorem refIn_is {a b : Rn} {v : Bool} (ha : a.Ok) (hb : b.Ok) (hv : decide (b.lo ≤ a.lo ∧ a.hi ≤ b.hi) = v) (w : World) :
 Calls Tryz.prog 21 #[.agg #[.int .i8 a.f, .int .i64 a.d, .int .i8 a.g, .int .i64 a.e], .agg #[.int .i8 b.f, .int .i64 b.d, .int .i8 b.g, .int .i64 b.e]] w fun x w' => x = .returned (.bool v) ∧ Below w.heap.size w w' := by
 have HA := Kp.mk (rg_two w a b).1
 have HC := Kp.mk (rg_two w a b).2
 have HB := Kp.mk (bl_of HA.1)
 have hj := join_within ha hb
 have p3 := ha.pos.le
 by_cases hm : a.lo ≤ b.hi ∧ b.lo ≤ a.hi
 ·have r1 := Kp.mk (fun w => refOver_is ha hb (decide_eq_true hm) w)
  obtain ⟨j, hjn⟩ : ∃ j, joinN a b = j := ⟨_, rfl⟩
  have r2 := Kp.mk (fun w => refJoin_is hjn w)
  rw [hjn] at hj
  by_cases he : j = b
  ·obtain rfl : true = v := by rw [← hv, decide_eq_true_iff.2 (hj.1 he)]
   have r2 : Kp (∀ w, Calls Tryz.prog 18 #[.agg #[.int .i8 a.f, .int .i64 a.d, .int .i8 a.g, .int .i64 a.e], .agg #[.int .i8 b.f, .int .i64 b.d, .int .i8 b.g, .int .i64 b.e]] w fun x w' => x = .returned (.agg #[.int .i8 b.f, .int .i64 b.d, .int .i8 b.g, .int .i64 b.e]) ∧ Below w.heap.size w w') := by rw [← he]; rw [he] at r2 ⊢; exact r2
   clear hj hjn p3 hm hv ha hb he
   go_enter Tryz.func21, Tryz.ntmps21
   go_upto_region 1 with fail
   generalize ((w.alloc (.cells #[.int .i8 a.f, .int .i64 a.d, .int .i8 a.g, .int .i64 a.e] 26)).alloc (.cells #[.int .i8 b.f, .int .i64 b.d, .int .i8 b.g, .int .i64 b.e] 26)) = w0 at *
   have kHA0 := HA.1.c0
   have kHA1 := HA.1.c1
   have kHA2 := HA.1.c2
   have kHA3 := HA.1.c3
   have kHC0 := HC.1.c0
   have kHC1 := HC.1.c1
   have kHC2 := HC.1.c2
   have kHC3 := HC.1.c3
   have hbl := (Below.refl w0.heap.size w0).drew
   have HBz := Kp.mk (HB.1.step hbl)
   have HAz := Kp.mk (HA.1.step hbl)
   have HCz := Kp.mk (HC.1.step hbl)
   have kHA0z := HAz.1.c0
   have kHA1z := HAz.1.c1
   have kHA2z := HAz.1.c2
   have kHA3z := HAz.1.c3
   have kHC0z := HCz.1.c0
   have kHC1z := HCz.1.c1
   have kHC2z := HCz.1.c2
   have kHC3z := HCz.1.c3
   clear hbl
   go_region_held3 (fun w' => w'.cell? ⟨w.heap.size, 0, none⟩ = some (.int .i8 a.f) ∧ w'.cell? ⟨w.heap.size, 1, none⟩ = some (.int .i64 a.d) ∧ w'.cell? ⟨w.heap.size, 2, none⟩ = some (.int .i8 a.g) ∧ w'.cell? ⟨w.heap.size, 3, none⟩ = some (.int .i64 a.e) ∧ w'.cell? ⟨w.heap.size + 1, 0, none⟩ = some (.int .i8 b.f) ∧ w'.cell? ⟨w.heap.size + 1, 1, none⟩ = some (.int .i64 b.d) ∧ w'.cell? ⟨w.heap.size + 1, 2, none⟩ = some (.int .i8 b.g) ∧ w'.cell? ⟨w.heap.size + 1, 3, none⟩ = some (.int .i64 b.e)) (first | (with_reducible exact ⟨kHA0, kHA1, kHA2, kHA3, kHC0, kHC1, kHC2, kHC3⟩) | (with_reducible exact ⟨kHA0z, kHA1z, kHA2z, kHA3z, kHC0z, kHC1z, kHC2z, kHC3z⟩) | (with_reducible exact ⟨kHA0_u1, kHA1_u1, kHA2_u1, kHA3_u1, kHC0_u1, kHC1_u1, kHC2_u1, kHC3_u1⟩) | (with_reducible exact ⟨kHA0_u2, kHA1_u2, kHA2_u2, kHA3_u2, kHC0_u2, kHC1_u2, kHC2_u2, kHC3_u2⟩) | go_keep)
    (first
     | (go_at_call 13; (with_reducible show Calls _ _ _ w0.drew _); (with_reducible refine (r1.1 _).mono ?_); rintro e u1 ⟨rfl, hb⟩; have HB_u1 := Kp.mk (HBz.1.step hb); have HA_u1 := Kp.mk (HAz.1.step hb); have HC_u1 := Kp.mk (HCz.1.step hb); have kHA0_u1 := HA_u1.1.c0; have kHA1_u1 := HA_u1.1.c1; have kHA2_u1 := HA_u1.1.c2; have kHA3_u1 := HA_u1.1.c3; have kHC0_u1 := HC_u1.1.c0; have kHC1_u1 := HC_u1.1.c1; have kHC2_u1 := HC_u1.1.c2; have kHC3_u1 := HC_u1.1.c3; clear hb)
     | (go_at_call 18; (with_reducible show Calls _ _ _ u1 _); (with_reducible refine (r2.1 _).mono ?_); rintro e u2 ⟨rfl, hb⟩; have HB_u2 := Kp.mk (HB_u1.1.step hb); have HA_u2 := Kp.mk (HA_u1.1.step hb); have HC_u2 := Kp.mk (HC_u1.1.step hb); have kHA0_u2 := HA_u2.1.c0; have kHA1_u2 := HA_u2.1.c1; have kHA2_u2 := HA_u2.1.c2; have kHA3_u2 := HA_u2.1.c3; have kHC0_u2 := HC_u2.1.c0; have kHC1_u2 := HC_u2.1.c1; have kHC2_u2 := HC_u2.1.c2; have kHC3_u2 := HC_u2.1.c3; clear hb))
   have HB := HB_u2
   have HA := HA_u2
   have HC := HC_u2
   have kHA0 := HA.1.c0
   have kHA1 := HA.1.c1
   have kHA2 := HA.1.c2
   have kHA3 := HA.1.c3
   have kHC0 := HC.1.c0
   have kHC1 := HC.1.c1
   have kHC2 := HC.1.c2
   have kHC3 := HC.1.c3
   go_wp2_with fail
   go_ret
   exact ⟨rfl, HB.1.below⟩
  ·obtain rfl : false = v := by rw [← hv, decide_eq_false_iff_not.2 (fun q => he (hj.2 q))]
   by_cases x0 : j.f = b.f
   ·have e0 : (j.f == b.f) = true := by rw [beq_iff_eq]; exact x0
    by_cases x1 : j.d = b.d
    ·have e1 : (j.d == b.d) = true := by rw [beq_iff_eq]; exact x1
     by_cases x2 : j.g = b.g
     ·have e2 : (j.g == b.g) = true := by rw [beq_iff_eq]; exact x2
      have e3 : (j.e == b.e) = false := by
       rw [beq_eq_false_iff_ne]; intro q; apply he; cases j; cases b; simp only at x0 x1 x2 q; rw [x0, x1, x2, q]
      clear hj hjn p3 hm hv ha hb he x0 x1 x2
      go_enter Tryz.func21, Tryz.ntmps21
      go_upto_region 1 with fail
      generalize ((w.alloc (.cells #[.int .i8 a.f, .int .i64 a.d, .int .i8 a.g, .int .i64 a.e] 26)).alloc (.cells #[.int .i8 b.f, .int .i64 b.d, .int .i8 b.g, .int .i64 b.e] 26)) = w0 at *
      have kHA0 := HA.1.c0
      have kHA1 := HA.1.c1
      have kHA2 := HA.1.c2
      have kHA3 := HA.1.c3
      have kHC0 := HC.1.c0
      have kHC1 := HC.1.c1
      have kHC2 := HC.1.c2
      have kHC3 := HC.1.c3
      have hbl := (Below.refl w0.heap.size w0).drew
      have HBz := Kp.mk (HB.1.step hbl)
      have HAz := Kp.mk (HA.1.step hbl)
      have HCz := Kp.mk (HC.1.step hbl)
      have kHA0z := HAz.1.c0
      have kHA1z := HAz.1.c1
      have kHA2z := HAz.1.c2
      have kHA3z := HAz.1.c3
      have kHC0z := HCz.1.c0
      have kHC1z := HCz.1.c1
      have kHC2z := HCz.1.c2
      have kHC3z := HCz.1.c3
      clear hbl
      go_region_held3 (fun w' => w'.cell? ⟨w.heap.size, 0, none⟩ = some (.int .i8 a.f) ∧ w'.cell? ⟨w.heap.size, 1, none⟩ = some (.int .i64 a.d) ∧ w'.cell? ⟨w.heap.size, 2, none⟩ = some (.int .i8 a.g) ∧ w'.cell? ⟨w.heap.size, 3, none⟩ = some (.int .i64 a.e) ∧ w'.cell? ⟨w.heap.size + 1, 0, none⟩ = some (.int .i8 b.f) ∧ w'.cell? ⟨w.heap.size + 1, 1, none⟩ = some (.int .i64 b.d) ∧ w'.cell? ⟨w.heap.size + 1, 2, none⟩ = some (.int .i8 b.g) ∧ w'.cell? ⟨w.heap.size + 1, 3, none⟩ = some (.int .i64 b.e)) (first | (with_reducible exact ⟨kHA0, kHA1, kHA2, kHA3, kHC0, kHC1, kHC2, kHC3⟩) | (with_reducible exact ⟨kHA0z, kHA1z, kHA2z, kHA3z, kHC0z, kHC1z, kHC2z, kHC3z⟩) | (with_reducible exact ⟨kHA0_u1, kHA1_u1, kHA2_u1, kHA3_u1, kHC0_u1, kHC1_u1, kHC2_u1, kHC3_u1⟩) | (with_reducible exact ⟨kHA0_u2, kHA1_u2, kHA2_u2, kHA3_u2, kHC0_u2, kHC1_u2, kHC2_u2, kHC3_u2⟩) | go_keep)
       (first
        | (go_at_call 13; (with_reducible show Calls _ _ _ w0.drew _); (with_reducible refine (r1.1 _).mono ?_); rintro e u1 ⟨rfl, hb⟩; have HB_u1 := Kp.mk (HBz.1.step hb); have HA_u1 := Kp.mk (HAz.1.step hb); have HC_u1 := Kp.mk (HCz.1.step hb); have kHA0_u1 := HA_u1.1.c0; have kHA1_u1 := HA_u1.1.c1; have kHA2_u1 := HA_u1.1.c2; have kHA3_u1 := HA_u1.1.c3; have kHC0_u1 := HC_u1.1.c0; have kHC1_u1 := HC_u1.1.c1; have kHC2_u1 := HC_u1.1.c2; have kHC3_u1 := HC_u1.1.c3; clear hb)
        | (go_at_call 18; (with_reducible show Calls _ _ _ u1 _); (with_reducible refine (r2.1 _).mono ?_); rintro e u2 ⟨rfl, hb⟩; have HB_u2 := Kp.mk (HB_u1.1.step hb); have HA_u2 := Kp.mk (HA_u1.1.step hb); have HC_u2 := Kp.mk (HC_u1.1.step hb); have kHA0_u2 := HA_u2.1.c0; have kHA1_u2 := HA_u2.1.c1; have kHA2_u2 := HA_u2.1.c2; have kHA3_u2 := HA_u2.1.c3; have kHC0_u2 := HC_u2.1.c0; have kHC1_u2 := HC_u2.1.c1; have kHC2_u2 := HC_u2.1.c2; have kHC3_u2 := HC_u2.1.c3; clear hb))
      have HB := HB_u2
      have HA := HA_u2
      have HC := HC_u2
      have kHA0 := HA.1.c0
      have kHA1 := HA.1.c1
      have kHA2 := HA.1.c2
      have kHA3 := HA.1.c3
      have kHC0 := HC.1.c0
      have kHC1 := HC.1.c1
      have kHC2 := HC.1.c2
      have kHC3 := HC.1.c3
      go_wp2_with fail
      go_ret
      exact ⟨rfl, HB.1.below⟩
     ·have e2 : (j.g == b.g) = false := by rw [beq_eq_false_iff_ne]; exact x2
      clear hj hjn p3 hm hv ha hb he x0 x1 x2
      go_enter Tryz.func21, Tryz.ntmps21
      go_upto_region 1 with fail
      generalize ((w.alloc (.cells #[.int .i8 a.f, .int .i64 a.d, .int .i8 a.g, .int .i64 a.e] 26)).alloc (.cells #[.int .i8 b.f, .int .i64 b.d, .int .i8 b.g, .int .i64 b.e] 26)) = w0 at *
      have kHA0 := HA.1.c0
      have kHA1 := HA.1.c1
      have kHA2 := HA.1.c2
      have kHA3 := HA.1.c3
      have kHC0 := HC.1.c0
      have kHC1 := HC.1.c1
      have kHC2 := HC.1.c2
      have kHC3 := HC.1.c3
      have hbl := (Below.refl w0.heap.size w0).drew
      have HBz := Kp.mk (HB.1.step hbl)
      have HAz := Kp.mk (HA.1.step hbl)
      have HCz := Kp.mk (HC.1.step hbl)
      have kHA0z := HAz.1.c0
      have kHA1z := HAz.1.c1
      have kHA2z := HAz.1.c2
      have kHA3z := HAz.1.c3
      have kHC0z := HCz.1.c0
      have kHC1z := HCz.1.c1
      have kHC2z := HCz.1.c2
      have kHC3z := HCz.1.c3
      clear hbl
      go_region_held3 (fun w' => w'.cell? ⟨w.heap.size, 0, none⟩ = some (.int .i8 a.f) ∧ w'.cell? ⟨w.heap.size, 1, none⟩ = some (.int .i64 a.d) ∧ w'.cell? ⟨w.heap.size, 2, none⟩ = some (.int .i8 a.g) ∧ w'.cell? ⟨w.heap.size, 3, none⟩ = some (.int .i64 a.e) ∧ w'.cell? ⟨w.heap.size + 1, 0, none⟩ = some (.int .i8 b.f) ∧ w'.cell? ⟨w.heap.size + 1, 1, none⟩ = some (.int .i64 b.d) ∧ w'.cell? ⟨w.heap.size + 1, 2, none⟩ = some (.int .i8 b.g) ∧ w'.cell? ⟨w.heap.size + 1, 3, none⟩ = some (.int .i64 b.e)) (first | (with_reducible exact ⟨kHA0, kHA1, kHA2, kHA3, kHC0, kHC1, kHC2, kHC3⟩) | (with_reducible exact ⟨kHA0z, kHA1z, kHA2z, kHA3z, kHC0z, kHC1z, kHC2z, kHC3z⟩) | (with_reducible exact ⟨kHA0_u1, kHA1_u1, kHA2_u1, kHA3_u1, kHC0_u1, kHC1_u1, kHC2_u1, kHC3_u1⟩) | (with_reducible exact ⟨kHA0_u2, kHA1_u2, kHA2_u2, kHA3_u2, kHC0_u2, kHC1_u2, kHC2_u2, kHC3_u2⟩) | go_keep)
       (first
        | (go_at_call 13; (with_reducible show Calls _ _ _ w0.drew _); (with_reducible refine (r1.1 _).mono ?_); rintro e u1 ⟨rfl, hb⟩; have HB_u1 := Kp.mk (HBz.1.step hb); have HA_u1 := Kp.mk (HAz.1.step hb); have HC_u1 := Kp.mk (HCz.1.step hb); have kHA0_u1 := HA_u1.1.c0; have kHA1_u1 := HA_u1.1.c1; have kHA2_u1 := HA_u1.1.c2; have kHA3_u1 := HA_u1.1.c3; have kHC0_u1 := HC_u1.1.c0; have kHC1_u1 := HC_u1.1.c1; have kHC2_u1 := HC_u1.1.c2; have kHC3_u1 := HC_u1.1.c3; clear hb)
        | (go_at_call 18; (with_reducible show Calls _ _ _ u1 _); (with_reducible refine (r2.1 _).mono ?_); rintro e u2 ⟨rfl, hb⟩; have HB_u2 := Kp.mk (HB_u1.1.step hb); have HA_u2 := Kp.mk (HA_u1.1.step hb); have HC_u2 := Kp.mk (HC_u1.1.step hb); have kHA0_u2 := HA_u2.1.c0; have kHA1_u2 := HA_u2.1.c1; have kHA2_u2 := HA_u2.1.c2; have kHA3_u2 := HA_u2.1.c3; have kHC0_u2 := HC_u2.1.c0; have kHC1_u2 := HC_u2.1.c1; have kHC2_u2 := HC_u2.1.c2; have kHC3_u2 := HC_u2.1.c3; clear hb))
      have HB := HB_u2
      have HA := HA_u2
      have HC := HC_u2
      have kHA0 := HA.1.c0
      have kHA1 := HA.1.c1
      have kHA2 := HA.1.c2
      have kHA3 := HA.1.c3
      have kHC0 := HC.1.c0
      have kHC1 := HC.1.c1
      have kHC2 := HC.1.c2
      have kHC3 := HC.1.c3
      go_wp2_with fail
      go_ret
      exact ⟨rfl, HB.1.below⟩
    ·have e1 : (j.d == b.d) = false := by rw [beq_eq_false_iff_ne]; exact x1
     clear hj hjn p3 hm hv ha hb he x0 x1
     go_enter Tryz.func21, Tryz.ntmps21
     go_upto_region 1 with fail
     generalize ((w.alloc (.cells #[.int .i8 a.f, .int .i64 a.d, .int .i8 a.g, .int .i64 a.e] 26)).alloc (.cells #[.int .i8 b.f, .int .i64 b.d, .int .i8 b.g, .int .i64 b.e] 26)) = w0 at *
     have kHA0 := HA.1.c0
     have kHA1 := HA.1.c1
     have kHA2 := HA.1.c2
     have kHA3 := HA.1.c3
     have kHC0 := HC.1.c0
     have kHC1 := HC.1.c1
     have kHC2 := HC.1.c2
     have kHC3 := HC.1.c3
     have hbl := (Below.refl w0.heap.size w0).drew
     have HBz := Kp.mk (HB.1.step hbl)
     have HAz := Kp.mk (HA.1.step hbl)
     have HCz := Kp.mk (HC.1.step hbl)
     have kHA0z := HAz.1.c0
     have kHA1z := HAz.1.c1
     have kHA2z := HAz.1.c2
     have kHA3z := HAz.1.c3
     have kHC0z := HCz.1.c0
     have kHC1z := HCz.1.c1
     have kHC2z := HCz.1.c2
     have kHC3z := HCz.1.c3
     clear hbl
     go_region_held3 (fun w' => w'.cell? ⟨w.heap.size, 0, none⟩ = some (.int .i8 a.f) ∧ w'.cell? ⟨w.heap.size, 1, none⟩ = some (.int .i64 a.d) ∧ w'.cell? ⟨w.heap.size, 2, none⟩ = some (.int .i8 a.g) ∧ w'.cell? ⟨w.heap.size, 3, none⟩ = some (.int .i64 a.e) ∧ w'.cell? ⟨w.heap.size + 1, 0, none⟩ = some (.int .i8 b.f) ∧ w'.cell? ⟨w.heap.size + 1, 1, none⟩ = some (.int .i64 b.d) ∧ w'.cell? ⟨w.heap.size + 1, 2, none⟩ = some (.int .i8 b.g) ∧ w'.cell? ⟨w.heap.size + 1, 3, none⟩ = some (.int .i64 b.e)) (first | (with_reducible exact ⟨kHA0, kHA1, kHA2, kHA3, kHC0, kHC1, kHC2, kHC3⟩) | (with_reducible exact ⟨kHA0z, kHA1z, kHA2z, kHA3z, kHC0z, kHC1z, kHC2z, kHC3z⟩) | (with_reducible exact ⟨kHA0_u1, kHA1_u1, kHA2_u1, kHA3_u1, kHC0_u1, kHC1_u1, kHC2_u1, kHC3_u1⟩) | (with_reducible exact ⟨kHA0_u2, kHA1_u2, kHA2_u2, kHA3_u2, kHC0_u2, kHC1_u2, kHC2_u2, kHC3_u2⟩) | go_keep)
      (first
       | (go_at_call 13; (with_reducible show Calls _ _ _ w0.drew _); (with_reducible refine (r1.1 _).mono ?_); rintro e u1 ⟨rfl, hb⟩; have HB_u1 := Kp.mk (HBz.1.step hb); have HA_u1 := Kp.mk (HAz.1.step hb); have HC_u1 := Kp.mk (HCz.1.step hb); have kHA0_u1 := HA_u1.1.c0; have kHA1_u1 := HA_u1.1.c1; have kHA2_u1 := HA_u1.1.c2; have kHA3_u1 := HA_u1.1.c3; have kHC0_u1 := HC_u1.1.c0; have kHC1_u1 := HC_u1.1.c1; have kHC2_u1 := HC_u1.1.c2; have kHC3_u1 := HC_u1.1.c3; clear hb)
       | (go_at_call 18; (with_reducible show Calls _ _ _ u1 _); (with_reducible refine (r2.1 _).mono ?_); rintro e u2 ⟨rfl, hb⟩; have HB_u2 := Kp.mk (HB_u1.1.step hb); have HA_u2 := Kp.mk (HA_u1.1.step hb); have HC_u2 := Kp.mk (HC_u1.1.step hb); have kHA0_u2 := HA_u2.1.c0; have kHA1_u2 := HA_u2.1.c1; have kHA2_u2 := HA_u2.1.c2; have kHA3_u2 := HA_u2.1.c3; have kHC0_u2 := HC_u2.1.c0; have kHC1_u2 := HC_u2.1.c1; have kHC2_u2 := HC_u2.1.c2; have kHC3_u2 := HC_u2.1.c3; clear hb))
     have HB := HB_u2
     have HA := HA_u2
     have HC := HC_u2
     have kHA0 := HA.1.c0
     have kHA1 := HA.1.c1
     have kHA2 := HA.1.c2
     have kHA3 := HA.1.c3
     have kHC0 := HC.1.c0
     have kHC1 := HC.1.c1
     have kHC2 := HC.1.c2
     have kHC3 := HC.1.c3
     go_wp2_with fail
     go_ret
     exact ⟨rfl, HB.1.below⟩
   ·have e0 : (j.f == b.f) = false := by rw [beq_eq_false_iff_ne]; exact x0
    clear hj hjn p3 hm hv ha hb he x0
    go_enter Tryz.func21, Tryz.ntmps21
    go_upto_region 1 with fail
    generalize ((w.alloc (.cells #[.int .i8 a.f, .int .i64 a.d, .int .i8 a.g, .int .i64 a.e] 26)).alloc (.cells #[.int .i8 b.f, .int .i64 b.d, .int .i8 b.g, .int .i64 b.e] 26)) = w0 at *
    have kHA0 := HA.1.c0
    have kHA1 := HA.1.c1
    have kHA2 := HA.1.c2
    have kHA3 := HA.1.c3
    have kHC0 := HC.1.c0
    have kHC1 := HC.1.c1
    have kHC2 := HC.1.c2
    have kHC3 := HC.1.c3
    have hbl := (Below.refl w0.heap.size w0).drew
    have HBz := Kp.mk (HB.1.step hbl)
    have HAz := Kp.mk (HA.1.step hbl)
    have HCz := Kp.mk (HC.1.step hbl)
    have kHA0z := HAz.1.c0
    have kHA1z := HAz.1.c1
    have kHA2z := HAz.1.c2
    have kHA3z := HAz.1.c3
    have kHC0z := HCz.1.c0
    have kHC1z := HCz.1.c1
    have kHC2z := HCz.1.c2
    have kHC3z := HCz.1.c3
    clear hbl
    go_region_held3 (fun w' => w'.cell? ⟨w.heap.size, 0, none⟩ = some (.int .i8 a.f) ∧ w'.cell? ⟨w.heap.size, 1, none⟩ = some (.int .i64 a.d) ∧ w'.cell? ⟨w.heap.size, 2, none⟩ = some (.int .i8 a.g) ∧ w'.cell? ⟨w.heap.size, 3, none⟩ = some (.int .i64 a.e) ∧ w'.cell? ⟨w.heap.size + 1, 0, none⟩ = some (.int .i8 b.f) ∧ w'.cell? ⟨w.heap.size + 1, 1, none⟩ = some (.int .i64 b.d) ∧ w'.cell? ⟨w.heap.size + 1, 2, none⟩ = some (.int .i8 b.g) ∧ w'.cell? ⟨w.heap.size + 1, 3, none⟩ = some (.int .i64 b.e)) (first | (with_reducible exact ⟨kHA0, kHA1, kHA2, kHA3, kHC0, kHC1, kHC2, kHC3⟩) | (with_reducible exact ⟨kHA0z, kHA1z, kHA2z, kHA3z, kHC0z, kHC1z, kHC2z, kHC3z⟩) | (with_reducible exact ⟨kHA0_u1, kHA1_u1, kHA2_u1, kHA3_u1, kHC0_u1, kHC1_u1, kHC2_u1, kHC3_u1⟩) | (with_reducible exact ⟨kHA0_u2, kHA1_u2, kHA2_u2, kHA3_u2, kHC0_u2, kHC1_u2, kHC2_u2, kHC3_u2⟩) | go_keep)
     (first
      | (go_at_call 13; (with_reducible show Calls _ _ _ w0.drew _); (with_reducible refine (r1.1 _).mono ?_); rintro e u1 ⟨rfl, hb⟩; have HB_u1 := Kp.mk (HBz.1.step hb); have HA_u1 := Kp.mk (HAz.1.step hb); have HC_u1 := Kp.mk (HCz.1.step hb); have kHA0_u1 := HA_u1.1.c0; have kHA1_u1 := HA_u1.1.c1; have kHA2_u1 := HA_u1.1.c2; have kHA3_u1 := HA_u1.1.c3; have kHC0_u1 := HC_u1.1.c0; have kHC1_u1 := HC_u1.1.c1; have kHC2_u1 := HC_u1.1.c2; have kHC3_u1 := HC_u1.1.c3; clear hb)
      | (go_at_call 18; (with_reducible show Calls _ _ _ u1 _); (with_reducible refine (r2.1 _).mono ?_); rintro e u2 ⟨rfl, hb⟩; have HB_u2 := Kp.mk (HB_u1.1.step hb); have HA_u2 := Kp.mk (HA_u1.1.step hb); have HC_u2 := Kp.mk (HC_u1.1.step hb); have kHA0_u2 := HA_u2.1.c0; have kHA1_u2 := HA_u2.1.c1; have kHA2_u2 := HA_u2.1.c2; have kHA3_u2 := HA_u2.1.c3; have kHC0_u2 := HC_u2.1.c0; have kHC1_u2 := HC_u2.1.c1; have kHC2_u2 := HC_u2.1.c2; have kHC3_u2 := HC_u2.1.c3; clear hb))
    have HB := HB_u2
    have HA := HA_u2
    have HC := HC_u2
    have kHA0 := HA.1.c0
    have kHA1 := HA.1.c1
    have kHA2 := HA.1.c2
    have kHA3 := HA.1.c3
    have kHC0 := HC.1.c0
    have kHC1 := HC.1.c1
    have kHC2 := HC.1.c2
    have kHC3 := HC.1.c3
    go_wp2_with fail
    go_ret
    exact ⟨rfl, HB.1.below⟩
 ·have r1 := Kp.mk (fun w => refOver_is ha hb (decide_eq_false hm) w)
  obtain rfl : false = v := by rw [← hv, decide_eq_false_iff_not.2]; have := hb.pos.le; omega
  clear hj p3 hm hv ha hb
  go_enter Tryz.func21, Tryz.ntmps21
  go_upto_region 1 with fail
  generalize ((w.alloc (.cells #[.int .i8 a.f, .int .i64 a.d, .int .i8 a.g, .int .i64 a.e] 26)).alloc (.cells #[.int .i8 b.f, .int .i64 b.d, .int .i8 b.g, .int .i64 b.e] 26)) = w0 at *
  have kHA0 := HA.1.c0
  have kHA1 := HA.1.c1
  have kHA2 := HA.1.c2
  have kHA3 := HA.1.c3
  have kHC0 := HC.1.c0
  have kHC1 := HC.1.c1
  have kHC2 := HC.1.c2
  have kHC3 := HC.1.c3
  have hbl := (Below.refl w0.heap.size w0).drew
  have HBz := Kp.mk (HB.1.step hbl)
  have HAz := Kp.mk (HA.1.step hbl)
  have HCz := Kp.mk (HC.1.step hbl)
  have kHA0z := HAz.1.c0
  have kHA1z := HAz.1.c1
  have kHA2z := HAz.1.c2
  have kHA3z := HAz.1.c3
  have kHC0z := HCz.1.c0
  have kHC1z := HCz.1.c1
  have kHC2z := HCz.1.c2
  have kHC3z := HCz.1.c3
  clear hbl
  clear kHA0 kHA1 kHA2 kHA3 kHC0 kHC1 kHC2 kHC3
  refine wp_region_held_drew (S := fun w' => w'.cell? ⟨w.heap.size, 0, none⟩ = some (.int .i8 a.f) ∧ w'.cell? ⟨w.heap.size, 1, none⟩ = some (.int .i64 a.d) ∧ w'.cell? ⟨w.heap.size, 2, none⟩ = some (.int .i8 a.g) ∧ w'.cell? ⟨w.heap.size, 3, none⟩ = some (.int .i64 a.e) ∧ w'.cell? ⟨w.heap.size + 1, 0, none⟩ = some (.int .i8 b.f) ∧ w'.cell? ⟨w.heap.size + 1, 1, none⟩ = some (.int .i64 b.d) ∧ w'.cell? ⟨w.heap.size + 1, 2, none⟩ = some (.int .i8 b.g) ∧ w'.cell? ⟨w.heap.size + 1, 3, none⟩ = some (.int .i64 b.e)) (by kernel_rfl) ?_ (fun hHeld => ?_)
  ·with_reducible exact ⟨kHA0z, kHA1z, kHA2z, kHA3z, kHC0z, kHC1z, kHC2z, kHC3z⟩
  refine tk 0 ?_ rfl hHeld ?_ ?_
  rotate_left
  ·(intro w hSw; (try dsimp only at hSw); go_simp; try with_reducible rfl)
  try simp only [pt]
  refine tk 1 ?_ rfl hHeld ?_ ?_
  rotate_left
  ·(intro w hSw; (try dsimp only at hSw); go_simp; try with_reducible rfl)
  try simp only [pt]
  refine rd [2] ?_
  refine AllReadyH.cons (dropAt rfl) (fun K hK => ?_) AllReadyH.nil
  go_simp
  go_at_call 13
  with_reducible refine (r1.1 _).mono ?_
  rintro e u1 ⟨rfl, hb⟩
  have HB_u1 := Kp.mk (HBz.1.step hb)
  have HA_u1 := Kp.mk (HAz.1.step hb)
  have HC_u1 := Kp.mk (HCz.1.step hb)
  have kHA0_u1 := HA_u1.1.c0
  have kHA1_u1 := HA_u1.1.c1
  have kHA2_u1 := HA_u1.1.c2
  have kHA3_u1 := HA_u1.1.c3
  have kHC0_u1 := HC_u1.1.c0
  have kHC1_u1 := HC_u1.1.c1
  have kHC2_u1 := HC_u1.1.c2
  have kHC3_u1 := HC_u1.1.c3
  clear hHeld kHA0z kHA1z kHA2z kHA3z kHC0z kHC1z kHC2z kHC3z HBz HAz HCz hb
  go_wp2_with fail
  refine hK.out _ _ ?_ (fun hHeld => ?_)
  ·with_reducible exact ⟨kHA0_u1, kHA1_u1, kHA2_u1, kHA3_u1, kHC0_u1, kHC1_u1, kHC2_u1, kHC3_u1⟩
  clear hK K
  try simp only [pt]
  refine tk 3 ?_ rfl hHeld ?_ ?_
  rotate_left
  ·(intro w hSw; (try dsimp only at hSw); go_simp; try with_reducible rfl)
  try simp only [pt]
  refine takeOut (i := 4) rfl (by kernel_rfl) (by kernel_rfl) (by kernel_rfl) (fun _ _ _ h => h) (by rfl) hHeld ?_
  try simp only [pt]
  refine takeOut (i := 5) rfl (by kernel_rfl) (by kernel_rfl) (by kernel_rfl) (fun _ _ _ h => h) (by rfl) hHeld ?_
  try simp only [pt]
  refine takeOut (i := 6) rfl (by kernel_rfl) (by kernel_rfl) (by kernel_rfl) (fun _ _ _ h => h) (by rfl) hHeld ?_
  try simp only [pt]
  refine takeOut (i := 7) rfl (by kernel_rfl) (by kernel_rfl) (by kernel_rfl) (fun _ _ _ h => h) (by rfl) hHeld ?_
  try simp only [pt]
  refine takeOut (i := 8) rfl (by kernel_rfl) (by kernel_rfl) (by kernel_rfl) (fun _ _ _ h => h) (by rfl) hHeld ?_
  try simp only [pt]
  refine tk 9 ?_ rfl hHeld ?_ ?_
  rotate_left
  ·(intro w hSw; (try dsimp only at hSw); go_simp; try with_reducible rfl)
  try simp only [pt]
  refine tk 10 ?_ rfl hHeld ?_ ?_
  rotate_left
  ·(intro w hSw; (try dsimp only at hSw); go_simp; try with_reducible rfl)
  try simp only [pt]
  refine wpAnyH_done (by kernel_rfl) ?_ _
  have HB := HB_u1
  have HA := HA_u1
  have HC := HC_u1
  have kHA0 := HA.1.c0
  have kHA1 := HA.1.c1
  have kHA2 := HA.1.c2
  have kHA3 := HA.1.c3
  have kHC0 := HC.1.c0
  have kHC1 := HC.1.c1
  have kHC2 := HC.1.c2
  have kHC3 := HC.1.c3
  go_wp2_with fail
  go_ret
  exact ⟨rfl, HB.1.below⟩
set_option maxHeartbeats 4000000 in
theorem refRText_is {r : Rn} (hr : r.In) (w : World) :
 Calls Tryz.prog 34 #[.agg #[.int .i8 r.f, .int .i64 r.d, .int .i8 r.g, .int .i64 r.e]] w fun x w' => x = .returned (.string (bs (textR r))) ∧ Below w.heap.size w w' := by
 have HA := Kp.mk (rg_new r 26 (Below.refl w.heap.size w))
 have HB := Kp.mk (bl_of HA.1)
 have r1 := Kp.mk (fun w => refEText_is (f := r.f) hr.d0 hr.d1 w)
 have r2 := Kp.mk (fun w => refEText_is (f := r.g) hr.e0 hr.e1 w)
 have l1 := textE_len (f := r.f) hr.d0 hr.d1
 have l2 := textE_len (f := r.g) hr.e0 hr.e1
 have HT := Kp.mk (show textE r.f r.d ++ [46, 46] ++ textE r.g r.e = textR r from rfl)
 generalize textE r.f r.d = a at *
 generalize textE r.g r.e = b at *
 have a1 : ∀ W, (Op.stringOp .add (bs a) ⟨#[46, 46]⟩).run Tryz.prog W = .ok (.string (bs (a ++ [46, 46]))) W := fun W => add_bs (b := [46, 46]) (by simp; omega) W
 have a2 : ∀ W, (Op.stringOp .add (bs (a ++ [46, 46])) (bs b)).run Tryz.prog W = .ok (.string (bs (a ++ [46, 46] ++ b))) W := fun W => add_bs (by simp; omega) W
 clear hr l1 l2
 go_enter Tryz.func34, Tryz.ntmps34
 go_upto_region 1 with fail
 generalize (w.alloc (.cells #[.int .i8 r.f, .int .i64 r.d, .int .i8 r.g, .int .i64 r.e] 26)) = w0 at *
 have kHA0 := HA.1.c0
 have kHA1 := HA.1.c1
 have kHA2 := HA.1.c2
 have kHA3 := HA.1.c3
 have hbl := (Below.refl w0.heap.size w0).drew
 have HBz := Kp.mk (HB.1.step hbl)
 have HAz := Kp.mk (HA.1.step hbl)
 have kHA0z := HAz.1.c0
 have kHA1z := HAz.1.c1
 have kHA2z := HAz.1.c2
 have kHA3z := HAz.1.c3
 clear hbl
 go_region_held3 (fun w' => w'.cell? ⟨w.heap.size, 0, none⟩ = some (.int .i8 r.f) ∧ w'.cell? ⟨w.heap.size, 1, none⟩ = some (.int .i64 r.d) ∧ w'.cell? ⟨w.heap.size, 2, none⟩ = some (.int .i8 r.g) ∧ w'.cell? ⟨w.heap.size, 3, none⟩ = some (.int .i64 r.e)) (first | (with_reducible exact ⟨kHA0, kHA1, kHA2, kHA3⟩) | (with_reducible exact ⟨kHA0z, kHA1z, kHA2z, kHA3z⟩) | (with_reducible exact ⟨kHA0_u1, kHA1_u1, kHA2_u1, kHA3_u1⟩) | (with_reducible exact ⟨kHA0_u2, kHA1_u2, kHA2_u2, kHA3_u2⟩) | go_keep)
  (first
   | (go_at_call 66; (with_reducible show Calls _ _ _ w0.drew _); (with_reducible refine (r1.1 _).mono ?_); rintro e u1 ⟨rfl, hb⟩; have HB_u1 := Kp.mk (HBz.1.step hb); have HA_u1 := Kp.mk (HAz.1.step hb); have kHA0_u1 := HA_u1.1.c0; have kHA1_u1 := HA_u1.1.c1; have kHA2_u1 := HA_u1.1.c2; have kHA3_u1 := HA_u1.1.c3; clear hb)
   | (go_at_call 66; (with_reducible show Calls _ _ _ u1 _); (with_reducible refine (r2.1 _).mono ?_); rintro e u2 ⟨rfl, hb⟩; have HB_u2 := Kp.mk (HB_u1.1.step hb); have HA_u2 := Kp.mk (HA_u1.1.step hb); have kHA0_u2 := HA_u2.1.c0; have kHA1_u2 := HA_u2.1.c1; have kHA2_u2 := HA_u2.1.c2; have kHA3_u2 := HA_u2.1.c3; clear hb))
 have HB := HB_u2
 have HA := HA_u2
 have kHA0 := HA.1.c0
 have kHA1 := HA.1.c1
 have kHA2 := HA.1.c2
 have kHA3 := HA.1.c3
 go_wp2_with fail
 go_ret
 exact ⟨by rw [← HT.1]; simp, HB.1.below⟩
end Go.Proofs.YteddfolhpoikcaaGreatDoor
namespace Go.Proofs.YteddfolhpoikcaaGreatDoor
open Go.RowKit
set_option maxRecDepth 100000

/-- a number of the reference -/
structure Nm (v : Value) (l : List Nat) (W : World) : Prop where
 dg : R1.Digs W v l
theorem Nm.step {v : Value} {l : List Nat} {W W' : World} (h : Nm v l W) (hb : Below W.heap.size W W') : Nm v l W' := ⟨h.dg.below hb⟩
theorem of_one {l : Int} (hl : l = 1) (w : World) : Calls Tryz.prog 58 #[.int .i64 1] w (R1.SomeNum l w []) := by subst hl; exact R1.of_any _ w (by omega) (by omega)

set_option maxHeartbeats 4000000 in
theorem refEnd_is {f d k g e : Int} {b : Bool} (h : MoveE f d k g e b) (d0 : -9223372036854775808 ≤ d) (d1 : d ≤ 9223372036854775807) (k0 : -9223372036854775808 ≤ k) (k1 : k ≤ 9223372036854775807) (w : World) :
 Calls Tryz.prog 60 #[.agg #[.int .i8 f, .int .i64 d], .int .i64 k] w fun x w' => x = .returned (.tuple #[.agg #[.int .i8 g, .int .i64 e], .bool b]) ∧ Below w.heap.size w w' := by
 have HA := Kp.mk (eb_two w f d 0 0).1
 have HR : Kp (ERow w (w.heap.size + 1) 0 0 ((w.alloc (.cells #[.int .i8 f, .int .i64 d] 24)).alloc (.cells #[.int .i8 0, .int .i64 0] 24))) := Kp.mk (by
  have := erow_new 0 0 (eb_new f d 24 (Below.refl w.heap.size w)).below
  rw [World.size_alloc] at this
  exact this)
 by_cases h0 : f = 0
 ·obtain ⟨s, hs⟩ : ∃ s, d + k = s := ⟨_, rfl⟩
  have t1 : (f != 0) = false := by rw [bne_eq_false_iff_eq]; exact h0
  have l1 : (dg d.natAbs).length ≤ 1000 := R1.len_i64 _ d0 d1
  have l2 : (dg k.natAbs).length ≤ 1000 := R1.len_i64 _ k0 k1
  have l3 : (dg s.natAbs).length ≤ 1000 := by have := dg_length_le s.natAbs 20 (by omega); omega
  have m1 := Kp.mk (fun w => R1.of_any d w d0 d1)
  have m2 := Kp.mk (fun w => R1.of_any k w k0 k1)
  have m3 : Kp (∀ w va vb, R1.Digs w va (dg d.natAbs) → R1.Digs w vb (dg k.natAbs) → Calls Tryz.prog 57 #[.agg #[.bool (decide (d < 0)), va], .agg #[.bool (decide (k < 0)), vb]] w (R1.SomeNum s w [])) := Kp.mk (fun w va vb ha hb => by rw [← hs]; exact R1.ref_add d k va vb w ha hb l1 l2)
  by_cases h1 : -9223372036854775808 ≤ d + k ∧ d + k ≤ 9223372036854775807
  ·obtain ⟨rfl, rfl, rfl⟩ := h.fits h0 h1
   have m4 := Kp.mk (fun w v (hd : R1.Digs w v (dg s.natAbs)) => R1.int_in s v w hd l3 (by omega) (by omega))
   rw [hs]
   clear h h0 h1 d0 d1 k0 k1 hs l1 l2 l3
   go_enter Tryz.func60, Tryz.ntmps60
   go_upto_region 1 with fail
   generalize (w.alloc (.cells #[.int .i8 f, .int .i64 d] 24)).alloc (.cells #[.int .i8 0, .int .i64 0] 24) = w0 at *
   have k0 := HA.1.c0
   have k1 := HA.1.c1
   go_wp2_with fail
   refine (m1.1 _).mono ?_
   rintro e' u1 ⟨⟨a1, c1, rfl, hd, _⟩, hbl⟩
   have HA := Kp.mk (HA.1.step hbl)
   have HR := Kp.mk (HR.1.step hbl)
   have D1 := Kp.mk (Nm.mk hd)
   clear hbl hd k0 k1
   have k0 := HA.1.c0
   have k1 := HA.1.c1
   go_wp2_with fail
   refine (m2.1 _).mono ?_
   rintro e' u2 ⟨⟨a2, c2, rfl, hd, _⟩, hbl⟩
   have HA := Kp.mk (HA.1.step hbl)
   have HR := Kp.mk (HR.1.step hbl)
   have D1 := Kp.mk (D1.1.step hbl)
   have D2 := Kp.mk (Nm.mk hd)
   clear hbl hd k0 k1
   have k0 := HA.1.c0
   have k1 := HA.1.c1
   go_wp2_with fail
   refine (m3.1 _ _ _ D1.1.dg D2.1.dg).mono ?_
   rintro e' u3 ⟨⟨a3, c3, rfl, hd, _⟩, hbl⟩
   have HA := Kp.mk (HA.1.step hbl)
   have HR := Kp.mk (HR.1.step hbl)
   have D1 := Kp.mk (D1.1.step hbl)
   have D2 := Kp.mk (D2.1.step hbl)
   have D3 := Kp.mk (Nm.mk hd)
   clear hbl hd k0 k1
   have k0 := HA.1.c0
   have k1 := HA.1.c1
   go_wp2_with fail
   refine (m4.1 _ _ D3.1.dg).mono ?_
   rintro e' u4 ⟨rfl, hbl⟩
   have HR := Kp.mk (HR.1.step hbl)
   have HA := Kp.mk (HA.1.step hbl)
   clear hbl k0 k1 D1 D2 D3
   have k0 := HA.1.c0
   have k1 := HA.1.c1
   go_wp2_with (first
    | refine wpList_store_row' rfl 24 (.tmp 4) (.tmp 23) rfl (w.heap.size + 1) #[.int .i8 0, .int .i64 s] rfl rfl 24 #[.int .i8 0, .int .i64 0] HR.1.heap infoEnd rfl (two_one _ _) ?_)
   refine bodyPost_ret (results_cell_tmp (p := 4) (ty := 24) rfl _ _ (w.heap.size + 1) 24 #[.int .i8 0, .int .i64 s] (0, 0) _ rfl (setRow_heap _ _ _ _ _ _ HR.1.heap) Tryz.underlying24 rfl infoEnd) rfl ?_
   exact ⟨rfl, below_setRow HR.1.below HR.1.base _⟩
  ·obtain ⟨rfl, rfl, rfl⟩ := h.over h0 h1
   have m4 := Kp.mk (fun w v (hd : R1.Digs w v (dg s.natAbs)) => R1.int_out s v w hd l3 (by omega))
   clear h h0 h1 d0 d1 k0 k1 hs l1 l2 l3
   go_enter Tryz.func60, Tryz.ntmps60
   go_upto_region 1 with fail
   generalize (w.alloc (.cells #[.int .i8 f, .int .i64 d] 24)).alloc (.cells #[.int .i8 0, .int .i64 0] 24) = w0 at *
   have k0 := HA.1.c0
   have k1 := HA.1.c1
   go_wp2_with fail
   refine (m1.1 _).mono ?_
   rintro e' u1 ⟨⟨a1, c1, rfl, hd, _⟩, hbl⟩
   have HA := Kp.mk (HA.1.step hbl)
   have HR := Kp.mk (HR.1.step hbl)
   have D1 := Kp.mk (Nm.mk hd)
   clear hbl hd k0 k1
   have k0 := HA.1.c0
   have k1 := HA.1.c1
   go_wp2_with fail
   refine (m2.1 _).mono ?_
   rintro e' u2 ⟨⟨a2, c2, rfl, hd, _⟩, hbl⟩
   have HA := Kp.mk (HA.1.step hbl)
   have HR := Kp.mk (HR.1.step hbl)
   have D1 := Kp.mk (D1.1.step hbl)
   have D2 := Kp.mk (Nm.mk hd)
   clear hbl hd k0 k1
   have k0 := HA.1.c0
   have k1 := HA.1.c1
   go_wp2_with fail
   refine (m3.1 _ _ _ D1.1.dg D2.1.dg).mono ?_
   rintro e' u3 ⟨⟨a3, c3, rfl, hd, _⟩, hbl⟩
   have HA := Kp.mk (HA.1.step hbl)
   have HR := Kp.mk (HR.1.step hbl)
   have D1 := Kp.mk (D1.1.step hbl)
   have D2 := Kp.mk (D2.1.step hbl)
   have D3 := Kp.mk (Nm.mk hd)
   clear hbl hd k0 k1
   have k0 := HA.1.c0
   have k1 := HA.1.c1
   go_wp2_with fail
   refine (m4.1 _ _ D3.1.dg).mono ?_
   rintro e' u4 ⟨rfl, hbl⟩
   have HR := Kp.mk (HR.1.step hbl)
   have HA := Kp.mk (HA.1.step hbl)
   clear hbl k0 k1 D1 D2 D3
   have k0 := HA.1.c0
   have k1 := HA.1.c1
   go_wp2_with (first
    | refine wpList_store_row' rfl 24 (.tmp 4) (.tmp 23) rfl (w.heap.size + 1) #[.int .i8 0, .int .i64 0] rfl rfl 24 #[.int .i8 0, .int .i64 0] HR.1.heap infoEnd rfl (two_one _ _) ?_)
   refine bodyPost_ret (results_cell_tmp (p := 4) (ty := 24) rfl _ _ (w.heap.size + 1) 24 #[.int .i8 0, .int .i64 0] (0, 0) _ rfl (setRow_heap _ _ _ _ _ _ HR.1.heap) Tryz.underlying24 rfl infoEnd) rfl ?_
   exact ⟨rfl, below_setRow HR.1.below HR.1.base _⟩
 ·obtain ⟨rfl, rfl, rfl⟩ := h.inf h0
  have t1 : (g != 0) = true := by rw [bne_iff_ne]; exact h0
  clear h h0 d0 d1 k0 k1
  go_enter Tryz.func60, Tryz.ntmps60
  go_upto_region 1 with fail
  generalize (w.alloc (.cells #[.int .i8 g, .int .i64 e] 24)).alloc (.cells #[.int .i8 0, .int .i64 0] 24) = w0 at *
  have k0 := HA.1.c0
  have k1 := HA.1.c1
  go_wp2_with (first
   | refine wpList_store_row' rfl 24 (.tmp 4) (.tmp 11) rfl (w.heap.size + 1) #[.int .i8 g, .int .i64 e] rfl rfl 24 #[.int .i8 0, .int .i64 0] HR.1.heap infoEnd rfl (two_one _ _) ?_)
  refine bodyPost_ret (results_cell_tmp (p := 4) (ty := 24) rfl _ _ (w.heap.size + 1) 24 #[.int .i8 g, .int .i64 e] (0, 0) _ rfl (setRow_heap _ _ _ _ _ _ HR.1.heap) Tryz.underlying24 rfl infoEnd) rfl ?_
  exact ⟨rfl, below_setRow HR.1.below HR.1.base _⟩
/-- a call's own blocks where a run is moved: the run, the result's block -/
structure Sh (w : World) (r : Rn) (W : World) : Prop where
 below : Below w.heap.size w W
 r : Rg w w.heap.size r W
 z : W.heap[w.heap.size + 1]? = some (.cells #[.int .i8 0, .int .i64 0, .int .i8 0, .int .i64 0] 26 (0, 0))
theorem Sh.step {w W W' : World} {r : Rn} (h : Sh w r W) (hb : Below W.heap.size W W') : Sh w r W' :=
 ⟨h.below.trans (hb.mono h.below.size), h.r.step hb, by rw [hb.block _ (Array.getElem?_eq_some_iff.1 h.z).1]; exact h.z⟩
theorem sh_new (w : World) (r : Rn) : Sh w r ((w.alloc (.cells #[.int .i8 r.f, .int .i64 r.d, .int .i8 r.g, .int .i64 r.e] 26)).alloc (.cells #[.int .i8 0, .int .i64 0, .int .i8 0, .int .i64 0] 26)) := by
 have h1 := rg_new r 26 (Below.refl w.heap.size w)
 have s1 : (w.alloc (.cells #[.int .i8 r.f, .int .i64 r.d, .int .i8 r.g, .int .i64 r.e] 26)).heap.size = w.heap.size + 1 := by simp
 generalize w.alloc (.cells #[.int .i8 r.f, .int .i64 r.d, .int .i8 r.g, .int .i64 r.e] 26) = u at *
 have b1 := (Below.refl u.heap.size u).alloc (Nat.le_refl _) (.cells #[.int .i8 0, .int .i64 0, .int .i8 0, .int .i64 0] 26)
 exact ⟨h1.below.trans (b1.mono h1.below.size), h1.step b1, by rw [← s1]; exact heap_alloc_new _ _⟩
set_option maxHeartbeats 4000000 in
theorem refShift_is {r s : Rn} {k c : Int} (hm : MoveR r k s c) (hr : r.In) (k0 : -9223372036854775808 ≤ k) (k1 : k ≤ 9223372036854775807) (w : World) :
 Calls Tryz.prog 31 #[.agg #[.int .i8 r.f, .int .i64 r.d, .int .i8 r.g, .int .i64 r.e], .int .i64 k] w fun x w' => x = .returned (.tuple #[.agg #[.int .i8 s.f, .int .i64 s.d, .int .i8 s.g, .int .i64 s.e], .int .i64 c]) ∧ Below w.heap.size w w' := by
 have HS := Kp.mk (sh_new w r)
 obtain ⟨g, e, a, h1⟩ := move_is r.f r.d k
 obtain ⟨h, i, b, h2⟩ := move_is r.g r.e k
 have r1 := Kp.mk (fun w => refEnd_is h1 hr.d0 hr.d1 k0 k1 w)
 have r2 := Kp.mk (fun w => refEnd_is h2 hr.e0 hr.e1 k0 k1 w)
 cases a
 ·obtain ⟨rfl, rfl⟩ := hm.over _ _ _ _ _ _ h1 h2 rfl
  clear hm hr h1 h2 k0 k1
  go_enter Tryz.func31, Tryz.ntmps31
  go_upto_region 1 with fail
  generalize (w.alloc (.cells #[.int .i8 r.f, .int .i64 r.d, .int .i8 r.g, .int .i64 r.e] 26)).alloc (.cells #[.int .i8 0, .int .i64 0, .int .i8 0, .int .i64 0] 26) = w0 at *
  have k0 := HS.1.r.c0
  have k1 := HS.1.r.c1
  have k2 := HS.1.r.c2
  have k3 := HS.1.r.c3
  go_wp2_with fail
  refine (r1.1 _).mono ?_
  rintro e' u1 ⟨rfl, hbl⟩
  have HS := Kp.mk (HS.1.step hbl)
  clear hbl k0 k1 k2 k3
  have k0 := HS.1.r.c0
  have k1 := HS.1.r.c1
  have k2 := HS.1.r.c2
  have k3 := HS.1.r.c3
  go_upto_region 2 with fail
  have HX := Kp.mk (eb_new g e 24 HS.1.below)
  have hbl := (Below.refl u1.heap.size u1).alloc (Nat.le_refl _) (.cells #[.int .i8 g, .int .i64 e] 24)
  have HS := Kp.mk (HS.1.step hbl)
  clear hbl k0 k1 k2 k3
  generalize u1.alloc (.cells #[.int .i8 g, .int .i64 e] 24) = u1z at *
  generalize u1.heap.size = bu1 at *
  have k0 := HS.1.r.c0
  have k1 := HS.1.r.c1
  have k2 := HS.1.r.c2
  have k3 := HS.1.r.c3
  have x0 := HX.1.c0
  have x1 := HX.1.c1
  go_wp2_with fail
  refine (r2.1 _).mono ?_
  rintro e' u2 ⟨rfl, hbl⟩
  have HS := Kp.mk (HS.1.step hbl)
  have HX := Kp.mk (HX.1.step hbl)
  clear x0 x1
  clear hbl k0 k1 k2 k3
  have k0 := HS.1.r.c0
  have k1 := HS.1.r.c1
  have k2 := HS.1.r.c2
  have k3 := HS.1.r.c3
  have x0 := HX.1.c0
  have x1 := HX.1.c1
  go_upto_region 3 with fail
  have HY := Kp.mk (eb_new h i 24 HS.1.below)
  have hbl := (Below.refl u2.heap.size u2).alloc (Nat.le_refl _) (.cells #[.int .i8 h, .int .i64 i] 24)
  have HS := Kp.mk (HS.1.step hbl)
  have HX := Kp.mk (HX.1.step hbl)
  clear x0 x1
  clear hbl k0 k1 k2 k3
  generalize u2.alloc (.cells #[.int .i8 h, .int .i64 i] 24) = u2z at *
  generalize u2.heap.size = bu2 at *
  have k0 := HS.1.r.c0
  have k1 := HS.1.r.c1
  have k2 := HS.1.r.c2
  have k3 := HS.1.r.c3
  have x0 := HX.1.c0
  have x1 := HX.1.c1
  have y0 := HY.1.c0
  have y1 := HY.1.c1
  go_wp2_with (first
   | refine wpList_store_row' rfl 26 (.tmp 4) (.tmp 30) rfl (w.heap.size + 1) #[.int .i8 0, .int .i64 0, .int .i8 0, .int .i64 0] rfl rfl 26 #[.int .i8 0, .int .i64 0, .int .i8 0, .int .i64 0] HS.1.z infoRn rfl (four_rn _ _ _ _) ?_)
  refine bodyPost_ret (results_cell_tmp (p := 4) (ty := 26) rfl _ _ (w.heap.size + 1) 26 #[.int .i8 0, .int .i64 0, .int .i8 0, .int .i64 0] (0, 0) _ rfl (setRow_heap _ _ _ _ _ _ HS.1.z) Tryz.underlying26 rfl infoRn) rfl ?_
  exact ⟨rfl, below_setRow HS.1.below (Nat.le_succ _) _⟩
 ·cases b
  ·obtain ⟨rfl, rfl⟩ := hm.over _ _ _ _ _ _ h1 h2 rfl
   clear hm hr h1 h2 k0 k1
   go_enter Tryz.func31, Tryz.ntmps31
   go_upto_region 1 with fail
   generalize (w.alloc (.cells #[.int .i8 r.f, .int .i64 r.d, .int .i8 r.g, .int .i64 r.e] 26)).alloc (.cells #[.int .i8 0, .int .i64 0, .int .i8 0, .int .i64 0] 26) = w0 at *
   have k0 := HS.1.r.c0
   have k1 := HS.1.r.c1
   have k2 := HS.1.r.c2
   have k3 := HS.1.r.c3
   go_wp2_with fail
   refine (r1.1 _).mono ?_
   rintro e' u1 ⟨rfl, hbl⟩
   have HS := Kp.mk (HS.1.step hbl)
   clear hbl k0 k1 k2 k3
   have k0 := HS.1.r.c0
   have k1 := HS.1.r.c1
   have k2 := HS.1.r.c2
   have k3 := HS.1.r.c3
   go_upto_region 2 with fail
   have HX := Kp.mk (eb_new g e 24 HS.1.below)
   have hbl := (Below.refl u1.heap.size u1).alloc (Nat.le_refl _) (.cells #[.int .i8 g, .int .i64 e] 24)
   have HS := Kp.mk (HS.1.step hbl)
   clear hbl k0 k1 k2 k3
   generalize u1.alloc (.cells #[.int .i8 g, .int .i64 e] 24) = u1z at *
   generalize u1.heap.size = bu1 at *
   have k0 := HS.1.r.c0
   have k1 := HS.1.r.c1
   have k2 := HS.1.r.c2
   have k3 := HS.1.r.c3
   have x0 := HX.1.c0
   have x1 := HX.1.c1
   go_wp2_with fail
   refine (r2.1 _).mono ?_
   rintro e' u2 ⟨rfl, hbl⟩
   have HS := Kp.mk (HS.1.step hbl)
   have HX := Kp.mk (HX.1.step hbl)
   clear x0 x1
   clear hbl k0 k1 k2 k3
   have k0 := HS.1.r.c0
   have k1 := HS.1.r.c1
   have k2 := HS.1.r.c2
   have k3 := HS.1.r.c3
   have x0 := HX.1.c0
   have x1 := HX.1.c1
   go_upto_region 3 with fail
   have HY := Kp.mk (eb_new h i 24 HS.1.below)
   have hbl := (Below.refl u2.heap.size u2).alloc (Nat.le_refl _) (.cells #[.int .i8 h, .int .i64 i] 24)
   have HS := Kp.mk (HS.1.step hbl)
   have HX := Kp.mk (HX.1.step hbl)
   clear x0 x1
   clear hbl k0 k1 k2 k3
   generalize u2.alloc (.cells #[.int .i8 h, .int .i64 i] 24) = u2z at *
   generalize u2.heap.size = bu2 at *
   have k0 := HS.1.r.c0
   have k1 := HS.1.r.c1
   have k2 := HS.1.r.c2
   have k3 := HS.1.r.c3
   have x0 := HX.1.c0
   have x1 := HX.1.c1
   have y0 := HY.1.c0
   have y1 := HY.1.c1
   go_wp2_with (first
    | refine wpList_store_row' rfl 26 (.tmp 4) (.tmp 30) rfl (w.heap.size + 1) #[.int .i8 0, .int .i64 0, .int .i8 0, .int .i64 0] rfl rfl 26 #[.int .i8 0, .int .i64 0, .int .i8 0, .int .i64 0] HS.1.z infoRn rfl (four_rn _ _ _ _) ?_)
   refine bodyPost_ret (results_cell_tmp (p := 4) (ty := 26) rfl _ _ (w.heap.size + 1) 26 #[.int .i8 0, .int .i64 0, .int .i8 0, .int .i64 0] (0, 0) _ rfl (setRow_heap _ _ _ _ _ _ HS.1.z) Tryz.underlying26 rfl infoRn) rfl ?_
   exact ⟨rfl, below_setRow HS.1.below (Nat.le_succ _) _⟩
  ·obtain ⟨rfl, rfl⟩ := hm.fits _ _ _ _ h1 h2
   clear hm hr h1 h2 k0 k1
   go_enter Tryz.func31, Tryz.ntmps31
   go_upto_region 1 with fail
   generalize (w.alloc (.cells #[.int .i8 r.f, .int .i64 r.d, .int .i8 r.g, .int .i64 r.e] 26)).alloc (.cells #[.int .i8 0, .int .i64 0, .int .i8 0, .int .i64 0] 26) = w0 at *
   have k0 := HS.1.r.c0
   have k1 := HS.1.r.c1
   have k2 := HS.1.r.c2
   have k3 := HS.1.r.c3
   go_wp2_with fail
   refine (r1.1 _).mono ?_
   rintro e' u1 ⟨rfl, hbl⟩
   have HS := Kp.mk (HS.1.step hbl)
   clear hbl k0 k1 k2 k3
   have k0 := HS.1.r.c0
   have k1 := HS.1.r.c1
   have k2 := HS.1.r.c2
   have k3 := HS.1.r.c3
   go_upto_region 2 with fail
   have HX := Kp.mk (eb_new g e 24 HS.1.below)
   have hbl := (Below.refl u1.heap.size u1).alloc (Nat.le_refl _) (.cells #[.int .i8 g, .int .i64 e] 24)
   have HS := Kp.mk (HS.1.step hbl)
   clear hbl k0 k1 k2 k3
   generalize u1.alloc (.cells #[.int .i8 g, .int .i64 e] 24) = u1z at *
   generalize u1.heap.size = bu1 at *
   have k0 := HS.1.r.c0
   have k1 := HS.1.r.c1
   have k2 := HS.1.r.c2
   have k3 := HS.1.r.c3
   have x0 := HX.1.c0
   have x1 := HX.1.c1
   go_wp2_with fail
   refine (r2.1 _).mono ?_
   rintro e' u2 ⟨rfl, hbl⟩
   have HS := Kp.mk (HS.1.step hbl)
   have HX := Kp.mk (HX.1.step hbl)
   clear x0 x1
   clear hbl k0 k1 k2 k3
   have k0 := HS.1.r.c0
   have k1 := HS.1.r.c1
   have k2 := HS.1.r.c2
   have k3 := HS.1.r.c3
   have x0 := HX.1.c0
   have x1 := HX.1.c1
   go_upto_region 3 with fail
   have HY := Kp.mk (eb_new h i 24 HS.1.below)
   have hbl := (Below.refl u2.heap.size u2).alloc (Nat.le_refl _) (.cells #[.int .i8 h, .int .i64 i] 24)
   have HS := Kp.mk (HS.1.step hbl)
   have HX := Kp.mk (HX.1.step hbl)
   clear x0 x1
   clear hbl k0 k1 k2 k3
   generalize u2.alloc (.cells #[.int .i8 h, .int .i64 i] 24) = u2z at *
   generalize u2.heap.size = bu2 at *
   have k0 := HS.1.r.c0
   have k1 := HS.1.r.c1
   have k2 := HS.1.r.c2
   have k3 := HS.1.r.c3
   have x0 := HX.1.c0
   have x1 := HX.1.c1
   have y0 := HY.1.c0
   have y1 := HY.1.c1
   go_wp2_with (first
    | refine wpList_store_row' rfl 26 (.tmp 4) (.tmp 33) rfl (w.heap.size + 1) #[.int .i8 g, .int .i64 e, .int .i8 h, .int .i64 i] rfl rfl 26 #[.int .i8 0, .int .i64 0, .int .i8 0, .int .i64 0] HS.1.z infoRn rfl (four_rn _ _ _ _) ?_)
   refine bodyPost_ret (results_cell_tmp (p := 4) (ty := 26) rfl _ _ (w.heap.size + 1) 26 #[.int .i8 g, .int .i64 e, .int .i8 h, .int .i64 i] (0, 0) _ rfl (setRow_heap _ _ _ _ _ _ HS.1.z) Tryz.underlying26 rfl infoRn) rfl ?_
   exact ⟨rfl, below_setRow HS.1.below (Nat.le_succ _) _⟩
end Go.Proofs.YteddfolhpoikcaaGreatDoor
namespace Go.Proofs.YteddfolhpoikcaaGreatDoor
open Go.RowKit
set_option maxRecDepth 100000

set_option maxHeartbeats 4000000 in
theorem refRLen_is {r : Rn} {n c : Int} (hr : r.Ok) (hn : lenN r = n) (hc : lenC r = c) (w : World) :
 Calls Tryz.prog 30 #[.agg #[.int .i8 r.f, .int .i64 r.d, .int .i8 r.g, .int .i64 r.e]] w fun x w' => x = .returned (.tuple #[.int .i64 n, .int .i64 c]) ∧ Below w.heap.size w w' := by
 have HA := Kp.mk (rg_new r 26 (Below.refl w.heap.size w))
 have HB := Kp.mk (bl_of HA.1)
 by_cases h1 : r.f = 0
 ·by_cases h2 : r.g = 0
  ·have hle := hr.le h1 h2
   have d0 := hr.d0
   have d1 := hr.d1
   have e0 := hr.e0
   have e1 := hr.e1
   have t1 : (r.f != 0) = false := by rw [bne_eq_false_iff_eq]; exact h1
   have t2 : (r.g != 0) = false := by rw [bne_eq_false_iff_eq]; exact h2
   obtain ⟨nd, hnd⟩ : ∃ x, -r.d = x := ⟨_, rfl⟩
   obtain ⟨s1, hs1⟩ : ∃ x, r.e + nd = x := ⟨_, rfl⟩
   obtain ⟨o1, ho1⟩ : ∃ x : Int, x = 1 := ⟨_, rfl⟩
   obtain ⟨s2, hs2⟩ : ∃ x, s1 + o1 = x := ⟨_, rfl⟩
   have l1 : (dg r.e.natAbs).length ≤ 1000 := R1.len_i64 _ e0 e1
   have l2 : (dg nd.natAbs).length ≤ 1000 := by have := dg_length_le nd.natAbs 20 (by omega); omega
   have l3 : (dg s1.natAbs).length ≤ 1000 := by have := dg_length_le s1.natAbs 20 (by omega); omega
   have l4 : (dg o1.natAbs).length ≤ 1000 := R1.len_i64 _ (by omega) (by omega)
   have l5 : (dg s2.natAbs).length ≤ 1000 := by have := dg_length_le s2.natAbs 20 (by omega); omega
   have m1 := Kp.mk (fun w => R1.of_any r.e w e0 e1)
   have m2 := Kp.mk (fun w => R1.of_any r.d w d0 d1)
   have m3 : Kp (∀ w v, R1.Digs w v (dg r.d.natAbs) → Calls Tryz.prog 59 #[.agg #[.bool (decide (r.d < 0)), v]] w (R1.SomeNum nd w (R1.sb v))) := Kp.mk (fun w v hd => by rw [← hnd]; exact R1.neg_any r.d v w hd)
   have m4 : Kp (∀ w va vb, R1.Digs w va (dg r.e.natAbs) → R1.Digs w vb (dg nd.natAbs) → Calls Tryz.prog 57 #[.agg #[.bool (decide (r.e < 0)), va], .agg #[.bool (decide (nd < 0)), vb]] w (R1.SomeNum s1 w [])) := Kp.mk (fun w va vb ha hb => by rw [← hs1]; exact R1.ref_add r.e nd va vb w ha hb l1 l2)
   have m5 := Kp.mk (fun w => of_one ho1 w)
   have m6 : Kp (∀ w va vb, R1.Digs w va (dg s1.natAbs) → R1.Digs w vb (dg o1.natAbs) → Calls Tryz.prog 57 #[.agg #[.bool (decide (s1 < 0)), va], .agg #[.bool (decide (o1 < 0)), vb]] w (R1.SomeNum s2 w [])) := Kp.mk (fun w va vb ha hb => by rw [← hs2]; exact R1.ref_add s1 o1 va vb w ha hb l3 l4)
   unfold lenN at hn
   unfold lenC at hc
   rw [if_pos ⟨h1, h2⟩] at hc
   by_cases h3 : s2 ≤ 9223372036854775807
   ·have m7 := Kp.mk (fun w v (hd : R1.Digs w v (dg s2.natAbs)) => R1.int_in s2 v w hd l5 (by omega) h3)
    rw [if_pos (by omega)] at hc
    rw [if_pos ⟨h1, h2, by omega⟩] at hn
    obtain rfl : s2 = n := by omega
    subst hc
    clear hr h1 h2 hle d0 d1 e0 e1 hnd hs1 ho1 hs2 l1 l2 l3 l4 l5 h3 hn
    go_enter Tryz.func30, Tryz.ntmps30
    go_upto_region 1 with fail
    generalize (w.alloc (.cells #[.int .i8 r.f, .int .i64 r.d, .int .i8 r.g, .int .i64 r.e] 26)) = w0 at *
    have kHA0 := HA.1.c0
    have kHA1 := HA.1.c1
    have kHA2 := HA.1.c2
    have kHA3 := HA.1.c3
    go_upto_region 3 with fail
    have hbl := (Below.refl w0.heap.size w0).drew
    have HBz := Kp.mk (HB.1.step hbl)
    have HAz := Kp.mk (HA.1.step hbl)
    have kHA0z := HAz.1.c0
    have kHA1z := HAz.1.c1
    have kHA2z := HAz.1.c2
    have kHA3z := HAz.1.c3
    clear hbl
    go_region_held3 (fun w' => w'.cell? ⟨w.heap.size, 0, none⟩ = some (.int .i8 r.f) ∧ w'.cell? ⟨w.heap.size, 1, none⟩ = some (.int .i64 r.d) ∧ w'.cell? ⟨w.heap.size, 2, none⟩ = some (.int .i8 r.g) ∧ w'.cell? ⟨w.heap.size, 3, none⟩ = some (.int .i64 r.e)) (first | (with_reducible exact ⟨kHA0, kHA1, kHA2, kHA3⟩) | (with_reducible exact ⟨kHA0z, kHA1z, kHA2z, kHA3z⟩) | (with_reducible exact ⟨kHA0_u1, kHA1_u1, kHA2_u1, kHA3_u1⟩) | (with_reducible exact ⟨kHA0_u2, kHA1_u2, kHA2_u2, kHA3_u2⟩) | (with_reducible exact ⟨kHA0_u3, kHA1_u3, kHA2_u3, kHA3_u3⟩) | (with_reducible exact ⟨kHA0_u4, kHA1_u4, kHA2_u4, kHA3_u4⟩) | (with_reducible exact ⟨kHA0_u5, kHA1_u5, kHA2_u5, kHA3_u5⟩) | (with_reducible exact ⟨kHA0_u6, kHA1_u6, kHA2_u6, kHA3_u6⟩) | (with_reducible exact ⟨kHA0_u7, kHA1_u7, kHA2_u7, kHA3_u7⟩) | go_keep)
     (first
      | (go_at_call 58; (with_reducible show Calls _ _ _ w0.drew _); (with_reducible refine (m1.1 _).mono ?_); rintro e u1 ⟨⟨adu1, cpu1, rfl, hd, _⟩, hb⟩; have HB_u1 := Kp.mk (HBz.1.step hb); have HA_u1 := Kp.mk (HAz.1.step hb); have D1_u1 := Kp.mk (Nm.mk hd); clear hd; have kHA0_u1 := HA_u1.1.c0; have kHA1_u1 := HA_u1.1.c1; have kHA2_u1 := HA_u1.1.c2; have kHA3_u1 := HA_u1.1.c3; clear hb)
      | (go_at_call 58; (with_reducible show Calls _ _ _ u1 _); (with_reducible refine (m2.1 _).mono ?_); rintro e u2 ⟨⟨adu2, cpu2, rfl, hd, _⟩, hb⟩; have HB_u2 := Kp.mk (HB_u1.1.step hb); have HA_u2 := Kp.mk (HA_u1.1.step hb); have D1_u2 := Kp.mk (D1_u1.1.step hb); have D2_u2 := Kp.mk (Nm.mk hd); clear hd; have kHA0_u2 := HA_u2.1.c0; have kHA1_u2 := HA_u2.1.c1; have kHA2_u2 := HA_u2.1.c2; have kHA3_u2 := HA_u2.1.c3; clear hb)
      | (go_at_call 59; (with_reducible show Calls _ _ _ u2 _); (with_reducible refine (m3.1 _ _ D2_u2.1.dg).mono ?_); rintro e u3 ⟨⟨adu3, cpu3, rfl, hd, _⟩, hb⟩; have HB_u3 := Kp.mk (HB_u2.1.step hb); have HA_u3 := Kp.mk (HA_u2.1.step hb); have D1_u3 := Kp.mk (D1_u2.1.step hb); have D2_u3 := Kp.mk (D2_u2.1.step hb); have D3_u3 := Kp.mk (Nm.mk hd); clear hd; have kHA0_u3 := HA_u3.1.c0; have kHA1_u3 := HA_u3.1.c1; have kHA2_u3 := HA_u3.1.c2; have kHA3_u3 := HA_u3.1.c3; clear hb)
      | (go_at_call 57; (with_reducible show Calls _ _ _ u3 _); (with_reducible refine (m4.1 _ _ _ D1_u3.1.dg D3_u3.1.dg).mono ?_); rintro e u4 ⟨⟨adu4, cpu4, rfl, hd, _⟩, hb⟩; have HB_u4 := Kp.mk (HB_u3.1.step hb); have HA_u4 := Kp.mk (HA_u3.1.step hb); have D1_u4 := Kp.mk (D1_u3.1.step hb); have D2_u4 := Kp.mk (D2_u3.1.step hb); have D3_u4 := Kp.mk (D3_u3.1.step hb); have D4_u4 := Kp.mk (Nm.mk hd); clear hd; have kHA0_u4 := HA_u4.1.c0; have kHA1_u4 := HA_u4.1.c1; have kHA2_u4 := HA_u4.1.c2; have kHA3_u4 := HA_u4.1.c3; clear hb)
      | (go_at_call 58; (with_reducible show Calls _ _ _ u4 _); (with_reducible refine (m5.1 _).mono ?_); rintro e u5 ⟨⟨adu5, cpu5, rfl, hd, _⟩, hb⟩; have HB_u5 := Kp.mk (HB_u4.1.step hb); have HA_u5 := Kp.mk (HA_u4.1.step hb); have D1_u5 := Kp.mk (D1_u4.1.step hb); have D2_u5 := Kp.mk (D2_u4.1.step hb); have D3_u5 := Kp.mk (D3_u4.1.step hb); have D4_u5 := Kp.mk (D4_u4.1.step hb); have D5_u5 := Kp.mk (Nm.mk hd); clear hd; have kHA0_u5 := HA_u5.1.c0; have kHA1_u5 := HA_u5.1.c1; have kHA2_u5 := HA_u5.1.c2; have kHA3_u5 := HA_u5.1.c3; clear hb)
      | (go_at_call 57; (with_reducible show Calls _ _ _ u5 _); (with_reducible refine (m6.1 _ _ _ D4_u5.1.dg D5_u5.1.dg).mono ?_); rintro e u6 ⟨⟨adu6, cpu6, rfl, hd, _⟩, hb⟩; have HB_u6 := Kp.mk (HB_u5.1.step hb); have HA_u6 := Kp.mk (HA_u5.1.step hb); have D1_u6 := Kp.mk (D1_u5.1.step hb); have D2_u6 := Kp.mk (D2_u5.1.step hb); have D3_u6 := Kp.mk (D3_u5.1.step hb); have D4_u6 := Kp.mk (D4_u5.1.step hb); have D5_u6 := Kp.mk (D5_u5.1.step hb); have D6_u6 := Kp.mk (Nm.mk hd); clear hd; have kHA0_u6 := HA_u6.1.c0; have kHA1_u6 := HA_u6.1.c1; have kHA2_u6 := HA_u6.1.c2; have kHA3_u6 := HA_u6.1.c3; clear hb)
      | (go_at_call 56; (with_reducible show Calls _ _ _ u6 _); (with_reducible refine (m7.1 _ _ D6_u6.1.dg).mono ?_); rintro e u7 ⟨rfl, hb⟩; have HB_u7 := Kp.mk (HB_u6.1.step hb); have HA_u7 := Kp.mk (HA_u6.1.step hb); have D1_u7 := Kp.mk (D1_u6.1.step hb); have D2_u7 := Kp.mk (D2_u6.1.step hb); have D3_u7 := Kp.mk (D3_u6.1.step hb); have D4_u7 := Kp.mk (D4_u6.1.step hb); have D5_u7 := Kp.mk (D5_u6.1.step hb); have D6_u7 := Kp.mk (D6_u6.1.step hb); have kHA0_u7 := HA_u7.1.c0; have kHA1_u7 := HA_u7.1.c1; have kHA2_u7 := HA_u7.1.c2; have kHA3_u7 := HA_u7.1.c3; clear hb))
    have HB := HB_u7
    have HA := HA_u7
    have D1 := D1_u7
    have D2 := D2_u7
    have D3 := D3_u7
    have D4 := D4_u7
    have D5 := D5_u7
    have D6 := D6_u7
    have kHA0 := HA.1.c0
    have kHA1 := HA.1.c1
    have kHA2 := HA.1.c2
    have kHA3 := HA.1.c3
    go_wp2_with fail
    go_ret2
    exact ⟨rfl, HB.1.below⟩
   ·have m7 := Kp.mk (fun w v (hd : R1.Digs w v (dg s2.natAbs)) => R1.int_out s2 v w hd l5 (by omega))
    rw [if_neg (by omega)] at hc
    rw [if_neg (fun q => h3 (by have := q.2.2; omega))] at hn
    subst hc hn
    clear hr h1 h2 hle d0 d1 e0 e1 hnd hs1 ho1 hs2 l1 l2 l3 l4 l5 h3
    go_enter Tryz.func30, Tryz.ntmps30
    go_upto_region 1 with fail
    generalize (w.alloc (.cells #[.int .i8 r.f, .int .i64 r.d, .int .i8 r.g, .int .i64 r.e] 26)) = w0 at *
    have kHA0 := HA.1.c0
    have kHA1 := HA.1.c1
    have kHA2 := HA.1.c2
    have kHA3 := HA.1.c3
    go_upto_region 3 with fail
    have hbl := (Below.refl w0.heap.size w0).drew
    have HBz := Kp.mk (HB.1.step hbl)
    have HAz := Kp.mk (HA.1.step hbl)
    have kHA0z := HAz.1.c0
    have kHA1z := HAz.1.c1
    have kHA2z := HAz.1.c2
    have kHA3z := HAz.1.c3
    clear hbl
    go_region_held3 (fun w' => w'.cell? ⟨w.heap.size, 0, none⟩ = some (.int .i8 r.f) ∧ w'.cell? ⟨w.heap.size, 1, none⟩ = some (.int .i64 r.d) ∧ w'.cell? ⟨w.heap.size, 2, none⟩ = some (.int .i8 r.g) ∧ w'.cell? ⟨w.heap.size, 3, none⟩ = some (.int .i64 r.e)) (first | (with_reducible exact ⟨kHA0, kHA1, kHA2, kHA3⟩) | (with_reducible exact ⟨kHA0z, kHA1z, kHA2z, kHA3z⟩) | (with_reducible exact ⟨kHA0_u1, kHA1_u1, kHA2_u1, kHA3_u1⟩) | (with_reducible exact ⟨kHA0_u2, kHA1_u2, kHA2_u2, kHA3_u2⟩) | (with_reducible exact ⟨kHA0_u3, kHA1_u3, kHA2_u3, kHA3_u3⟩) | (with_reducible exact ⟨kHA0_u4, kHA1_u4, kHA2_u4, kHA3_u4⟩) | (with_reducible exact ⟨kHA0_u5, kHA1_u5, kHA2_u5, kHA3_u5⟩) | (with_reducible exact ⟨kHA0_u6, kHA1_u6, kHA2_u6, kHA3_u6⟩) | (with_reducible exact ⟨kHA0_u7, kHA1_u7, kHA2_u7, kHA3_u7⟩) | go_keep)
     (first
      | (go_at_call 58; (with_reducible show Calls _ _ _ w0.drew _); (with_reducible refine (m1.1 _).mono ?_); rintro e u1 ⟨⟨adu1, cpu1, rfl, hd, _⟩, hb⟩; have HB_u1 := Kp.mk (HBz.1.step hb); have HA_u1 := Kp.mk (HAz.1.step hb); have D1_u1 := Kp.mk (Nm.mk hd); clear hd; have kHA0_u1 := HA_u1.1.c0; have kHA1_u1 := HA_u1.1.c1; have kHA2_u1 := HA_u1.1.c2; have kHA3_u1 := HA_u1.1.c3; clear hb)
      | (go_at_call 58; (with_reducible show Calls _ _ _ u1 _); (with_reducible refine (m2.1 _).mono ?_); rintro e u2 ⟨⟨adu2, cpu2, rfl, hd, _⟩, hb⟩; have HB_u2 := Kp.mk (HB_u1.1.step hb); have HA_u2 := Kp.mk (HA_u1.1.step hb); have D1_u2 := Kp.mk (D1_u1.1.step hb); have D2_u2 := Kp.mk (Nm.mk hd); clear hd; have kHA0_u2 := HA_u2.1.c0; have kHA1_u2 := HA_u2.1.c1; have kHA2_u2 := HA_u2.1.c2; have kHA3_u2 := HA_u2.1.c3; clear hb)
      | (go_at_call 59; (with_reducible show Calls _ _ _ u2 _); (with_reducible refine (m3.1 _ _ D2_u2.1.dg).mono ?_); rintro e u3 ⟨⟨adu3, cpu3, rfl, hd, _⟩, hb⟩; have HB_u3 := Kp.mk (HB_u2.1.step hb); have HA_u3 := Kp.mk (HA_u2.1.step hb); have D1_u3 := Kp.mk (D1_u2.1.step hb); have D2_u3 := Kp.mk (D2_u2.1.step hb); have D3_u3 := Kp.mk (Nm.mk hd); clear hd; have kHA0_u3 := HA_u3.1.c0; have kHA1_u3 := HA_u3.1.c1; have kHA2_u3 := HA_u3.1.c2; have kHA3_u3 := HA_u3.1.c3; clear hb)
      | (go_at_call 57; (with_reducible show Calls _ _ _ u3 _); (with_reducible refine (m4.1 _ _ _ D1_u3.1.dg D3_u3.1.dg).mono ?_); rintro e u4 ⟨⟨adu4, cpu4, rfl, hd, _⟩, hb⟩; have HB_u4 := Kp.mk (HB_u3.1.step hb); have HA_u4 := Kp.mk (HA_u3.1.step hb); have D1_u4 := Kp.mk (D1_u3.1.step hb); have D2_u4 := Kp.mk (D2_u3.1.step hb); have D3_u4 := Kp.mk (D3_u3.1.step hb); have D4_u4 := Kp.mk (Nm.mk hd); clear hd; have kHA0_u4 := HA_u4.1.c0; have kHA1_u4 := HA_u4.1.c1; have kHA2_u4 := HA_u4.1.c2; have kHA3_u4 := HA_u4.1.c3; clear hb)
      | (go_at_call 58; (with_reducible show Calls _ _ _ u4 _); (with_reducible refine (m5.1 _).mono ?_); rintro e u5 ⟨⟨adu5, cpu5, rfl, hd, _⟩, hb⟩; have HB_u5 := Kp.mk (HB_u4.1.step hb); have HA_u5 := Kp.mk (HA_u4.1.step hb); have D1_u5 := Kp.mk (D1_u4.1.step hb); have D2_u5 := Kp.mk (D2_u4.1.step hb); have D3_u5 := Kp.mk (D3_u4.1.step hb); have D4_u5 := Kp.mk (D4_u4.1.step hb); have D5_u5 := Kp.mk (Nm.mk hd); clear hd; have kHA0_u5 := HA_u5.1.c0; have kHA1_u5 := HA_u5.1.c1; have kHA2_u5 := HA_u5.1.c2; have kHA3_u5 := HA_u5.1.c3; clear hb)
      | (go_at_call 57; (with_reducible show Calls _ _ _ u5 _); (with_reducible refine (m6.1 _ _ _ D4_u5.1.dg D5_u5.1.dg).mono ?_); rintro e u6 ⟨⟨adu6, cpu6, rfl, hd, _⟩, hb⟩; have HB_u6 := Kp.mk (HB_u5.1.step hb); have HA_u6 := Kp.mk (HA_u5.1.step hb); have D1_u6 := Kp.mk (D1_u5.1.step hb); have D2_u6 := Kp.mk (D2_u5.1.step hb); have D3_u6 := Kp.mk (D3_u5.1.step hb); have D4_u6 := Kp.mk (D4_u5.1.step hb); have D5_u6 := Kp.mk (D5_u5.1.step hb); have D6_u6 := Kp.mk (Nm.mk hd); clear hd; have kHA0_u6 := HA_u6.1.c0; have kHA1_u6 := HA_u6.1.c1; have kHA2_u6 := HA_u6.1.c2; have kHA3_u6 := HA_u6.1.c3; clear hb)
      | (go_at_call 56; (with_reducible show Calls _ _ _ u6 _); (with_reducible refine (m7.1 _ _ D6_u6.1.dg).mono ?_); rintro e u7 ⟨rfl, hb⟩; have HB_u7 := Kp.mk (HB_u6.1.step hb); have HA_u7 := Kp.mk (HA_u6.1.step hb); have D1_u7 := Kp.mk (D1_u6.1.step hb); have D2_u7 := Kp.mk (D2_u6.1.step hb); have D3_u7 := Kp.mk (D3_u6.1.step hb); have D4_u7 := Kp.mk (D4_u6.1.step hb); have D5_u7 := Kp.mk (D5_u6.1.step hb); have D6_u7 := Kp.mk (D6_u6.1.step hb); have kHA0_u7 := HA_u7.1.c0; have kHA1_u7 := HA_u7.1.c1; have kHA2_u7 := HA_u7.1.c2; have kHA3_u7 := HA_u7.1.c3; clear hb))
    have HB := HB_u7
    have HA := HA_u7
    have D1 := D1_u7
    have D2 := D2_u7
    have D3 := D3_u7
    have D4 := D4_u7
    have D5 := D5_u7
    have D6 := D6_u7
    have kHA0 := HA.1.c0
    have kHA1 := HA.1.c1
    have kHA2 := HA.1.c2
    have kHA3 := HA.1.c3
    go_wp2_with fail
    go_ret2
    exact ⟨rfl, HB.1.below⟩
  ·have t1 : (r.f != 0) = false := by rw [bne_eq_false_iff_eq]; exact h1
   have t2 : (r.g != 0) = true := by rw [bne_iff_ne]; exact h2
   obtain rfl : 0 = n := by rw [← hn]; unfold lenN; rw [if_neg (fun q => h2 q.2.1)]
   obtain rfl : 16 = c := by rw [← hc]; unfold lenC; rw [if_neg (fun q => h2 q.2)]
   clear hr h1 h2 hn hc
   go_enter Tryz.func30, Tryz.ntmps30
   go_upto_region 1 with fail
   generalize (w.alloc (.cells #[.int .i8 r.f, .int .i64 r.d, .int .i8 r.g, .int .i64 r.e] 26)) = w0 at *
   have kHA0 := HA.1.c0
   have kHA1 := HA.1.c1
   have kHA2 := HA.1.c2
   have kHA3 := HA.1.c3
   go_wp2_with fail
   go_ret2
   exact ⟨rfl, HB.1.below⟩
 ·have t1 : (r.f != 0) = true := by rw [bne_iff_ne]; exact h1
  obtain rfl : 0 = n := by rw [← hn]; unfold lenN; rw [if_neg (fun q => h1 q.1)]
  obtain rfl : 16 = c := by rw [← hc]; unfold lenC; rw [if_neg (fun q => h1 q.1)]
  clear hr h1 hn hc
  go_enter Tryz.func30, Tryz.ntmps30
  go_upto_region 1 with fail
  generalize (w.alloc (.cells #[.int .i8 r.f, .int .i64 r.d, .int .i8 r.g, .int .i64 r.e] 26)) = w0 at *
  have kHA0 := HA.1.c0
  have kHA1 := HA.1.c1
  have kHA2 := HA.1.c2
  have kHA3 := HA.1.c3
  go_wp2_with fail
  go_ret2
  exact ⟨rfl, HB.1.below⟩
end Go.Proofs.YteddfolhpoikcaaGreatDoor
