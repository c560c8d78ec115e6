/-
 DERIVED. CONTRACTS of package runs (the developers' functions): Check, areRight, reaches, Touch. Written by mkrnd1.py.
-/
import Derived.Test.YteddfolhpoikcaaGreatDoorPEnPubC
import Derived.Test.YteddfolhpoikcaaGreatDoorPRg
import Derived.Deep.RegionHeld3
namespace Go.Proofs.YteddfolhpoikcaaGreatDoor
open Go.RowKit
set_option maxRecDepth 100000

set_option maxHeartbeats 4000000 in
theorem dRChk_is {r : Rn} {c : Int} (hr : r.In) (hc : chkR r = c) (w : World) (hL : LaidEn w) :
 Calls Tryz.prog 9 #[.agg #[.int .i8 r.f, .int .i64 r.d, .int .i8 r.g, .int .i64 r.e]] w fun x w' => x = .returned (.int .i64 c) ∧ Below w.heap.size w w' := by
 have HA := Kp.mk (rg_new r 26 (Below.refl w.heap.size w))
 have HB := Kp.mk (bl_of HA.1)
 obtain ⟨a, ha⟩ : ∃ a, chkE r.f r.d = a := ⟨_, rfl⟩
 obtain ⟨b, hb⟩ : ∃ b, chkE r.g r.e = b := ⟨_, rfl⟩
 obtain ⟨q, hq⟩ : ∃ q, cmpE r.f r.d r.g r.e = q := ⟨_, rfl⟩
 have r1 : Kp (∀ u, Below w.heap.size w u → Calls Tryz.prog 38 #[.agg #[.int .i8 r.f, .int .i64 r.d]] u fun e w' => e = .returned (.int .i64 a) ∧ Below u.heap.size u w') := Kp.mk (fun u hw => endCoreN.check u (hL.below hw) hr.d0 hr.d1 ha)
 have r2 : Kp (∀ u, Below w.heap.size w u → Calls Tryz.prog 38 #[.agg #[.int .i8 r.g, .int .i64 r.e]] u fun e w' => e = .returned (.int .i64 b) ∧ Below u.heap.size u w') := Kp.mk (fun u hw => endCoreN.check u (hL.below hw) hr.e0 hr.e1 hb)
 have r3 : Kp (∀ u, Below w.heap.size w u → Calls Tryz.prog 39 #[.agg #[.int .i8 r.f, .int .i64 r.d], .agg #[.int .i8 r.g, .int .i64 r.e]] u fun e w' => e = .returned (.int .i64 q) ∧ Below u.heap.size u w') := Kp.mk (fun u hw => endCoreN.cmp u (hL.below hw) hr.d0 hr.d1 hr.e0 hr.e1 hq)
 unfold chkR at hc
 rw [ha, hb, hq] at hc
 have ha0 : a = 0 → r.f = 0 ∨ (r.f = 1 ∨ r.f = -1) ∧ r.d = 0 := fun h => chkE_zero.1 (by rw [ha]; exact h)
 have hb0 : b = 0 → r.g = 0 ∨ (r.g = 1 ∨ r.g = -1) ∧ r.e = 0 := fun h => chkE_zero.1 (by rw [hb]; exact h)
 have hq0 : q = -1 ∨ q = 0 ∨ q = 1 := by rw [← hq]; exact cmpE_one _ _ _ _
 clear ha hb hq hr hL
 by_cases h1 : a = 0
 ·by_cases h2 : b = 0
  ·rw [if_pos ⟨h1, h2⟩] at hc
   have ha0 := ha0 h1
   have hb0 := hb0 h2
   subst h1 h2
   by_cases h3 : r.f = 1
   ·rw [if_pos (.inl h3)] at hc
    subst hc
    have t3 : 0 < r.f := by omega
    clear h3 ha0 hb0 hq0
    go_enter Tryz.func9, Tryz.ntmps9
    go_upto_region 1 with fail
    generalize (w.alloc (.cells #[.int .i8 r.f, .int .i64 r.d, .int .i8 r.g, .int .i64 r.e] 26)) = w0 at *
    obtain ⟨kHA0, kHA1, kHA2, kHA3⟩ := HA.1.cs
    go_wp2_with fail
    refine (r1.1 _ HB.1.below).mono ?_
    rintro e u1 ⟨rfl, hbl⟩
    clear kHA0 kHA1 kHA2 kHA3
    have HB := Kp.mk (HB.1.step hbl)
    have HA := Kp.mk (HA.1.step hbl)
    clear hbl
    obtain ⟨kHA0, kHA1, kHA2, kHA3⟩ := HA.1.cs
    go_wp2_with fail
    refine (r2.1 _ HB.1.below).mono ?_
    rintro e u2 ⟨rfl, hbl⟩
    clear kHA0 kHA1 kHA2 kHA3
    have HB := Kp.mk (HB.1.step hbl)
    have HA := Kp.mk (HA.1.step hbl)
    clear hbl
    obtain ⟨kHA0, kHA1, kHA2, kHA3⟩ := HA.1.cs
    go_wp2_with fail
    go_ret
    exact ⟨rfl, HB.1.below⟩
   ·have t3 : ¬ 0 < r.f := by omega
    by_cases h4 : r.g = -1
    ·rw [if_pos (.inr h4)] at hc
     subst hc
     have t4 : r.g < 0 := by omega
     clear h3 h4 ha0 hb0 hq0
     go_enter Tryz.func9, Tryz.ntmps9
     go_upto_region 1 with fail
     generalize (w.alloc (.cells #[.int .i8 r.f, .int .i64 r.d, .int .i8 r.g, .int .i64 r.e] 26)) = w0 at *
     obtain ⟨kHA0, kHA1, kHA2, kHA3⟩ := HA.1.cs
     go_wp2_with fail
     refine (r1.1 _ HB.1.below).mono ?_
     rintro e u1 ⟨rfl, hbl⟩
     clear kHA0 kHA1 kHA2 kHA3
     have HB := Kp.mk (HB.1.step hbl)
     have HA := Kp.mk (HA.1.step hbl)
     clear hbl
     obtain ⟨kHA0, kHA1, kHA2, kHA3⟩ := HA.1.cs
     go_wp2_with fail
     refine (r2.1 _ HB.1.below).mono ?_
     rintro e u2 ⟨rfl, hbl⟩
     clear kHA0 kHA1 kHA2 kHA3
     have HB := Kp.mk (HB.1.step hbl)
     have HA := Kp.mk (HA.1.step hbl)
     clear hbl
     obtain ⟨kHA0, kHA1, kHA2, kHA3⟩ := HA.1.cs
     go_wp2_with fail
     go_ret
     exact ⟨rfl, HB.1.below⟩
    ·have t4 : ¬ r.g < 0 := by omega
     rw [if_neg (by omega)] at hc
     clear h3 h4 ha0 hb0
     rcases hq0 with rfl | rfl | rfl
     ·obtain rfl : 0 = c := by rw [← hc]; decide
      clear hc
      go_enter Tryz.func9, Tryz.ntmps9
      go_upto_region 1 with fail
      generalize (w.alloc (.cells #[.int .i8 r.f, .int .i64 r.d, .int .i8 r.g, .int .i64 r.e] 26)) = w0 at *
      obtain ⟨kHA0, kHA1, kHA2, kHA3⟩ := HA.1.cs
      go_wp2_with fail
      refine (r1.1 _ HB.1.below).mono ?_
      rintro e u1 ⟨rfl, hbl⟩
      clear kHA0 kHA1 kHA2 kHA3
      have HB := Kp.mk (HB.1.step hbl)
      have HA := Kp.mk (HA.1.step hbl)
      clear hbl
      obtain ⟨kHA0, kHA1, kHA2, kHA3⟩ := HA.1.cs
      go_wp2_with fail
      refine (r2.1 _ HB.1.below).mono ?_
      rintro e u2 ⟨rfl, hbl⟩
      clear kHA0 kHA1 kHA2 kHA3
      have HB := Kp.mk (HB.1.step hbl)
      have HA := Kp.mk (HA.1.step hbl)
      clear hbl
      obtain ⟨kHA0, kHA1, kHA2, kHA3⟩ := HA.1.cs
      go_wp2_with fail
      refine (r3.1 _ HB.1.below).mono ?_
      rintro e u3 ⟨rfl, hbl⟩
      clear kHA0 kHA1 kHA2 kHA3
      have HB := Kp.mk (HB.1.step hbl)
      have HA := Kp.mk (HA.1.step hbl)
      clear hbl
      obtain ⟨kHA0, kHA1, kHA2, kHA3⟩ := HA.1.cs
      go_wp2_with fail
      go_ret
      exact ⟨rfl, HB.1.below⟩
     ·obtain rfl : 0 = c := by rw [← hc]; decide
      clear hc
      go_enter Tryz.func9, Tryz.ntmps9
      go_upto_region 1 with fail
      generalize (w.alloc (.cells #[.int .i8 r.f, .int .i64 r.d, .int .i8 r.g, .int .i64 r.e] 26)) = w0 at *
      obtain ⟨kHA0, kHA1, kHA2, kHA3⟩ := HA.1.cs
      go_wp2_with fail
      refine (r1.1 _ HB.1.below).mono ?_
      rintro e u1 ⟨rfl, hbl⟩
      clear kHA0 kHA1 kHA2 kHA3
      have HB := Kp.mk (HB.1.step hbl)
      have HA := Kp.mk (HA.1.step hbl)
      clear hbl
      obtain ⟨kHA0, kHA1, kHA2, kHA3⟩ := HA.1.cs
      go_wp2_with fail
      refine (r2.1 _ HB.1.below).mono ?_
      rintro e u2 ⟨rfl, hbl⟩
      clear kHA0 kHA1 kHA2 kHA3
      have HB := Kp.mk (HB.1.step hbl)
      have HA := Kp.mk (HA.1.step hbl)
      clear hbl
      obtain ⟨kHA0, kHA1, kHA2, kHA3⟩ := HA.1.cs
      go_wp2_with fail
      refine (r3.1 _ HB.1.below).mono ?_
      rintro e u3 ⟨rfl, hbl⟩
      clear kHA0 kHA1 kHA2 kHA3
      have HB := Kp.mk (HB.1.step hbl)
      have HA := Kp.mk (HA.1.step hbl)
      clear hbl
      obtain ⟨kHA0, kHA1, kHA2, kHA3⟩ := HA.1.cs
      go_wp2_with fail
      go_ret
      exact ⟨rfl, HB.1.below⟩
     ·obtain rfl : 12 = c := by rw [← hc]; decide
      clear hc
      go_enter Tryz.func9, Tryz.ntmps9
      go_upto_region 1 with fail
      generalize (w.alloc (.cells #[.int .i8 r.f, .int .i64 r.d, .int .i8 r.g, .int .i64 r.e] 26)) = w0 at *
      obtain ⟨kHA0, kHA1, kHA2, kHA3⟩ := HA.1.cs
      go_wp2_with fail
      refine (r1.1 _ HB.1.below).mono ?_
      rintro e u1 ⟨rfl, hbl⟩
      clear kHA0 kHA1 kHA2 kHA3
      have HB := Kp.mk (HB.1.step hbl)
      have HA := Kp.mk (HA.1.step hbl)
      clear hbl
      obtain ⟨kHA0, kHA1, kHA2, kHA3⟩ := HA.1.cs
      go_wp2_with fail
      refine (r2.1 _ HB.1.below).mono ?_
      rintro e u2 ⟨rfl, hbl⟩
      clear kHA0 kHA1 kHA2 kHA3
      have HB := Kp.mk (HB.1.step hbl)
      have HA := Kp.mk (HA.1.step hbl)
      clear hbl
      obtain ⟨kHA0, kHA1, kHA2, kHA3⟩ := HA.1.cs
      go_wp2_with fail
      refine (r3.1 _ HB.1.below).mono ?_
      rintro e u3 ⟨rfl, hbl⟩
      clear kHA0 kHA1 kHA2 kHA3
      have HB := Kp.mk (HB.1.step hbl)
      have HA := Kp.mk (HA.1.step hbl)
      clear hbl
      obtain ⟨kHA0, kHA1, kHA2, kHA3⟩ := HA.1.cs
      go_wp2_with fail
      go_ret
      exact ⟨rfl, HB.1.below⟩
  ·rw [if_neg (fun h => h2 h.2)] at hc
   subst hc h1
   have t2 : (b != 0) = true := by rw [bne_iff_ne]; exact h2
   clear h2 ha0 hb0 hq0
   go_enter Tryz.func9, Tryz.ntmps9
   go_upto_region 1 with fail
   generalize (w.alloc (.cells #[.int .i8 r.f, .int .i64 r.d, .int .i8 r.g, .int .i64 r.e] 26)) = w0 at *
   obtain ⟨kHA0, kHA1, kHA2, kHA3⟩ := HA.1.cs
   go_wp2_with fail
   refine (r1.1 _ HB.1.below).mono ?_
   rintro e u1 ⟨rfl, hbl⟩
   clear kHA0 kHA1 kHA2 kHA3
   have HB := Kp.mk (HB.1.step hbl)
   have HA := Kp.mk (HA.1.step hbl)
   clear hbl
   obtain ⟨kHA0, kHA1, kHA2, kHA3⟩ := HA.1.cs
   go_wp2_with fail
   refine (r2.1 _ HB.1.below).mono ?_
   rintro e u2 ⟨rfl, hbl⟩
   clear kHA0 kHA1 kHA2 kHA3
   have HB := Kp.mk (HB.1.step hbl)
   have HA := Kp.mk (HA.1.step hbl)
   clear hbl
   obtain ⟨kHA0, kHA1, kHA2, kHA3⟩ := HA.1.cs
   go_wp2_with fail
   go_ret
   exact ⟨rfl, HB.1.below⟩
 ·rw [if_neg (fun h => h1 h.1)] at hc
  subst hc
  have t1 : (a != 0) = true := by rw [bne_iff_ne]; exact h1
  clear h1 ha0 hb0 hq0
  go_enter Tryz.func9, Tryz.ntmps9
  go_upto_region 1 with fail
  generalize (w.alloc (.cells #[.int .i8 r.f, .int .i64 r.d, .int .i8 r.g, .int .i64 r.e] 26)) = w0 at *
  obtain ⟨kHA0, kHA1, kHA2, kHA3⟩ := HA.1.cs
  go_wp2_with fail
  refine (r1.1 _ HB.1.below).mono ?_
  rintro e u1 ⟨rfl, hbl⟩
  clear kHA0 kHA1 kHA2 kHA3
  have HB := Kp.mk (HB.1.step hbl)
  have HA := Kp.mk (HA.1.step hbl)
  clear hbl
  obtain ⟨kHA0, kHA1, kHA2, kHA3⟩ := HA.1.cs
  go_wp2_with fail
  go_ret
  exact ⟨rfl, HB.1.below⟩
set_option maxHeartbeats 4000000 in
theorem dAre_is {a b : Rn} {v : Bool} (ha : a.In) (hb : b.In) (hv : decide (chkR a = 0 ∧ chkR b = 0) = v) (w : World) (hL : LaidEn w) :
 Calls Tryz.prog 45 #[.agg #[.int .i8 a.f, .int .i64 a.d, .int .i8 a.g, .int .i64 a.e], .agg #[.int .i8 b.f, .int .i64 b.d, .int .i8 b.g, .int .i64 b.e]] w fun x w' => x = .returned (.bool v) ∧ Below w.heap.size w w' := by
 have HA := Kp.mk (rg_two w a b).1
 have HC := Kp.mk (rg_two w a b).2
 have HB := Kp.mk (bl_of HA.1)
 obtain ⟨c, hc⟩ : ∃ c, chkR a = c := ⟨_, rfl⟩
 obtain ⟨d, hd⟩ : ∃ d, chkR b = d := ⟨_, rfl⟩
 have r1 : Kp (∀ u, Below w.heap.size w u → Calls Tryz.prog 9 #[rv a] u fun e w' => e = .returned (.int .i64 c) ∧ Below u.heap.size u w') := Kp.mk (fun u hw => dRChk_is ha hc u (hL.below hw))
 have r2 : Kp (∀ u, Below w.heap.size w u → Calls Tryz.prog 9 #[rv b] u fun e w' => e = .returned (.int .i64 d) ∧ Below u.heap.size u w') := Kp.mk (fun u hw => dRChk_is hb hd u (hL.below hw))
 rw [hc, hd] at hv
 clear hc hd ha hb hL
 by_cases h1 : c = 0
 ·subst h1
  by_cases h2 : d = 0
  ·subst h2
   obtain rfl : true = v := by rw [← hv]; decide
   clear hv
   go_enter Tryz.func45, Tryz.ntmps45
   go_upto_region 1 with fail
   generalize ((w.alloc (.cells #[.int .i8 a.f, .int .i64 a.d, .int .i8 a.g, .int .i64 a.e] 26)).alloc (.cells #[.int .i8 b.f, .int .i64 b.d, .int .i8 b.g, .int .i64 b.e] 26)) = w0 at *
   obtain ⟨kHA0, kHA1, kHA2, kHA3⟩ := HA.1.cs
   obtain ⟨kHC0, kHC1, kHC2, kHC3⟩ := HC.1.cs
   go_wp2_with fail
   refine (r1.1 _ HB.1.below).mono ?_
   rintro e u1 ⟨rfl, hbl⟩
   clear kHA0 kHA1 kHA2 kHA3 kHC0 kHC1 kHC2 kHC3
   have HB := Kp.mk (HB.1.step hbl)
   have HA := Kp.mk (HA.1.step hbl)
   have HC := Kp.mk (HC.1.step hbl)
   clear hbl
   obtain ⟨kHA0, kHA1, kHA2, kHA3⟩ := HA.1.cs
   obtain ⟨kHC0, kHC1, kHC2, kHC3⟩ := HC.1.cs
   go_wp2_with fail
   refine (r2.1 _ HB.1.below).mono ?_
   rintro e u2 ⟨rfl, hbl⟩
   clear kHA0 kHA1 kHA2 kHA3 kHC0 kHC1 kHC2 kHC3
   have HB := Kp.mk (HB.1.step hbl)
   have HA := Kp.mk (HA.1.step hbl)
   have HC := Kp.mk (HC.1.step hbl)
   clear hbl
   obtain ⟨kHA0, kHA1, kHA2, kHA3⟩ := HA.1.cs
   obtain ⟨kHC0, kHC1, kHC2, kHC3⟩ := HC.1.cs
   go_wp2_with fail
   go_ret
   exact ⟨rfl, HB.1.below⟩
  ·obtain rfl : false = v := by rw [← hv]; symm; rw [decide_eq_false_iff_not]; omega
   have t2 : (d == 0) = false := by rw [beq_eq_false_iff_ne]; exact h2
   clear hv h2
   go_enter Tryz.func45, Tryz.ntmps45
   go_upto_region 1 with fail
   generalize ((w.alloc (.cells #[.int .i8 a.f, .int .i64 a.d, .int .i8 a.g, .int .i64 a.e] 26)).alloc (.cells #[.int .i8 b.f, .int .i64 b.d, .int .i8 b.g, .int .i64 b.e] 26)) = w0 at *
   obtain ⟨kHA0, kHA1, kHA2, kHA3⟩ := HA.1.cs
   obtain ⟨kHC0, kHC1, kHC2, kHC3⟩ := HC.1.cs
   go_wp2_with fail
   refine (r1.1 _ HB.1.below).mono ?_
   rintro e u1 ⟨rfl, hbl⟩
   clear kHA0 kHA1 kHA2 kHA3 kHC0 kHC1 kHC2 kHC3
   have HB := Kp.mk (HB.1.step hbl)
   have HA := Kp.mk (HA.1.step hbl)
   have HC := Kp.mk (HC.1.step hbl)
   clear hbl
   obtain ⟨kHA0, kHA1, kHA2, kHA3⟩ := HA.1.cs
   obtain ⟨kHC0, kHC1, kHC2, kHC3⟩ := HC.1.cs
   go_wp2_with fail
   refine (r2.1 _ HB.1.below).mono ?_
   rintro e u2 ⟨rfl, hbl⟩
   clear kHA0 kHA1 kHA2 kHA3 kHC0 kHC1 kHC2 kHC3
   have HB := Kp.mk (HB.1.step hbl)
   have HA := Kp.mk (HA.1.step hbl)
   have HC := Kp.mk (HC.1.step hbl)
   clear hbl
   obtain ⟨kHA0, kHA1, kHA2, kHA3⟩ := HA.1.cs
   obtain ⟨kHC0, kHC1, kHC2, kHC3⟩ := HC.1.cs
   go_wp2_with fail
   go_ret
   exact ⟨rfl, HB.1.below⟩
 ·obtain rfl : false = v := by rw [← hv]; symm; rw [decide_eq_false_iff_not]; omega
  have t1 : (c == 0) = false := by rw [beq_eq_false_iff_ne]; exact h1
  clear hv h1
  go_enter Tryz.func45, Tryz.ntmps45
  go_upto_region 1 with fail
  generalize ((w.alloc (.cells #[.int .i8 a.f, .int .i64 a.d, .int .i8 a.g, .int .i64 a.e] 26)).alloc (.cells #[.int .i8 b.f, .int .i64 b.d, .int .i8 b.g, .int .i64 b.e] 26)) = w0 at *
  obtain ⟨kHA0, kHA1, kHA2, kHA3⟩ := HA.1.cs
  obtain ⟨kHC0, kHC1, kHC2, kHC3⟩ := HC.1.cs
  go_wp2_with fail
  refine (r1.1 _ HB.1.below).mono ?_
  rintro e u1 ⟨rfl, hbl⟩
  clear kHA0 kHA1 kHA2 kHA3 kHC0 kHC1 kHC2 kHC3
  have HB := Kp.mk (HB.1.step hbl)
  have HA := Kp.mk (HA.1.step hbl)
  have HC := Kp.mk (HC.1.step hbl)
  clear hbl
  obtain ⟨kHA0, kHA1, kHA2, kHA3⟩ := HA.1.cs
  obtain ⟨kHC0, kHC1, kHC2, kHC3⟩ := HC.1.cs
  go_wp2_with fail
  go_ret
  exact ⟨rfl, HB.1.below⟩
set_option maxHeartbeats 4000000 in
theorem dReach_is {a b : Rn} {v : Bool} (ha : a.Ok) (hb : b.Ok) (hv : decide (b.lo ≤ a.hi + 1) = v) (w : World) (hL : LaidEn w) :
 Calls Tryz.prog 46 #[.agg #[.int .i8 a.f, .int .i64 a.d, .int .i8 a.g, .int .i64 a.e], .agg #[.int .i8 b.f, .int .i64 b.d, .int .i8 b.g, .int .i64 b.e]] w fun x w' => x = .returned (.bool v) ∧ Below w.heap.size w w' := by
 have HA := Kp.mk (rg_two w a b).1
 have HC := Kp.mk (rg_two w a b).2
 have HB := Kp.mk (bl_of HA.1)
 have pa := ha.pos.ph
 have pb := hb.pos.pl
 have d0 := hb.d0
 have d1 := hb.d1
 have e0 := ha.e0
 have e1 := ha.e1
 obtain ⟨q, hq⟩ : ∃ q, cmpE b.f b.d a.g a.e = q := ⟨_, rfl⟩
 have hle := cmpE_le b.f b.d a.g a.e
 rw [hq] at hle
 have r1 : Kp (∀ u, Below w.heap.size w u → Calls Tryz.prog 39 #[.agg #[.int .i8 b.f, .int .i64 b.d], .agg #[.int .i8 a.g, .int .i64 a.e]] u fun e w' => e = .returned (.int .i64 q) ∧ Below u.heap.size u w') := Kp.mk (fun u hw => endCoreN.cmp u (hL.below hw) d0 d1 e0 e1 hq)
 clear hq
 by_cases h1 : q ≤ 0
 ·obtain rfl : true = v := by rw [← hv]; symm; rw [decide_eq_true_iff]; omega
  clear hv hle pa pb d0 d1 e0 e1 ha hb hL
  go_enter Tryz.func46, Tryz.ntmps46
  go_upto_region 1 with fail
  generalize ((w.alloc (.cells #[.int .i8 a.f, .int .i64 a.d, .int .i8 a.g, .int .i64 a.e] 26)).alloc (.cells #[.int .i8 b.f, .int .i64 b.d, .int .i8 b.g, .int .i64 b.e] 26)) = w0 at *
  obtain ⟨kHA0, kHA1, kHA2, kHA3⟩ := HA.1.cs
  obtain ⟨kHC0, kHC1, kHC2, kHC3⟩ := HC.1.cs
  go_wp2_with fail
  refine (r1.1 _ HB.1.below).mono ?_
  rintro e u1 ⟨rfl, hbl⟩
  clear kHA0 kHA1 kHA2 kHA3 kHC0 kHC1 kHC2 kHC3
  have HB := Kp.mk (HB.1.step hbl)
  have HA := Kp.mk (HA.1.step hbl)
  have HC := Kp.mk (HC.1.step hbl)
  clear hbl
  obtain ⟨kHA0, kHA1, kHA2, kHA3⟩ := HA.1.cs
  obtain ⟨kHC0, kHC1, kHC2, kHC3⟩ := HC.1.cs
  go_wp2_with fail
  go_ret
  exact ⟨rfl, HB.1.below⟩
 ·have hg : a.g = 0 := by omega
  have hf : b.f = 0 := by omega
  have hlt : a.e < b.d := by omega
  obtain ⟨n, hn⟩ : ∃ n, a.e + 1 = n := ⟨_, rfl⟩
  have hs : StepE true a.g a.e 0 n 0 := ⟨fun h => absurd (by rw [chkE_zero]; exact .inl hg) h, fun _ h => absurd hg h, fun _ h => by simp at h; omega, fun _ _ => ⟨rfl, by simp; omega, rfl⟩⟩
  have r2 : Kp (∀ u, Below w.heap.size w u → Calls Tryz.prog 69 #[.agg #[.int .i8 a.g, .int .i64 a.e]] u fun e w' => e = .returned (.tuple #[.agg #[.int .i8 0, .int .i64 n], .int .i64 0]) ∧ Below u.heap.size u w') := Kp.mk (fun u hw => endCoreN.next u (hL.below hw) e0 e1 hs)
  have t0 : (0 == b.f) = true := by rw [beq_iff_eq]; exact hf.symm
  by_cases h2 : n = b.d
  ·obtain rfl : true = v := by rw [← hv]; symm; rw [decide_eq_true_iff]; omega
   have t2 : (n == b.d) = true := by rw [beq_iff_eq]; exact h2
   clear hv hle pa pb d0 d1 e0 e1 ha hb hL hg hf hlt hs hn h2
   go_enter Tryz.func46, Tryz.ntmps46
   go_upto_region 1 with fail
   generalize ((w.alloc (.cells #[.int .i8 a.f, .int .i64 a.d, .int .i8 a.g, .int .i64 a.e] 26)).alloc (.cells #[.int .i8 b.f, .int .i64 b.d, .int .i8 b.g, .int .i64 b.e] 26)) = w0 at *
   obtain ⟨kHA0, kHA1, kHA2, kHA3⟩ := HA.1.cs
   obtain ⟨kHC0, kHC1, kHC2, kHC3⟩ := HC.1.cs
   go_wp2_with fail
   refine (r1.1 _ HB.1.below).mono ?_
   rintro e u1 ⟨rfl, hbl⟩
   clear kHA0 kHA1 kHA2 kHA3 kHC0 kHC1 kHC2 kHC3
   have HB := Kp.mk (HB.1.step hbl)
   have HA := Kp.mk (HA.1.step hbl)
   have HC := Kp.mk (HC.1.step hbl)
   clear hbl
   obtain ⟨kHA0, kHA1, kHA2, kHA3⟩ := HA.1.cs
   obtain ⟨kHC0, kHC1, kHC2, kHC3⟩ := HC.1.cs
   go_wp2_with fail
   refine (r2.1 _ HB.1.below).mono ?_
   rintro e u2 ⟨rfl, hbl⟩
   clear kHA0 kHA1 kHA2 kHA3 kHC0 kHC1 kHC2 kHC3
   have HB := Kp.mk (HB.1.step hbl)
   have HA := Kp.mk (HA.1.step hbl)
   have HC := Kp.mk (HC.1.step hbl)
   clear hbl
   obtain ⟨kHA0, kHA1, kHA2, kHA3⟩ := HA.1.cs
   obtain ⟨kHC0, kHC1, kHC2, kHC3⟩ := HC.1.cs
   go_upto_region 4 with fail
   clear kHA0 kHA1 kHA2 kHA3 kHC0 kHC1 kHC2 kHC3
   have HX := Kp.mk (eb_new 0 n 24 HB.1.below)
   have hbl := (Below.refl u2.heap.size u2).alloc (Nat.le_refl _) (.cells #[.int .i8 0, .int .i64 n] 24)
   have HB := Kp.mk (HB.1.step hbl)
   have HA := Kp.mk (HA.1.step hbl)
   have HC := Kp.mk (HC.1.step hbl)
   clear hbl
   generalize u2.alloc (.cells #[.int .i8 0, .int .i64 n] 24) = u3 at *
   generalize u2.heap.size = gx at *
   obtain ⟨kHA0, kHA1, kHA2, kHA3⟩ := HA.1.cs
   obtain ⟨kHC0, kHC1, kHC2, kHC3⟩ := HC.1.cs
   have kHX0 := HX.1.c0
   have kHX1 := HX.1.c1
   go_wp2_with fail
   go_ret
   exact ⟨rfl, HB.1.below⟩
  ·obtain rfl : false = v := by rw [← hv]; symm; rw [decide_eq_false_iff_not]; omega
   have t2 : (n == b.d) = false := by rw [beq_eq_false_iff_ne]; exact h2
   clear hv hle pa pb d0 d1 e0 e1 ha hb hL hg hf hlt hs hn h2
   go_enter Tryz.func46, Tryz.ntmps46
   go_upto_region 1 with fail
   generalize ((w.alloc (.cells #[.int .i8 a.f, .int .i64 a.d, .int .i8 a.g, .int .i64 a.e] 26)).alloc (.cells #[.int .i8 b.f, .int .i64 b.d, .int .i8 b.g, .int .i64 b.e] 26)) = w0 at *
   obtain ⟨kHA0, kHA1, kHA2, kHA3⟩ := HA.1.cs
   obtain ⟨kHC0, kHC1, kHC2, kHC3⟩ := HC.1.cs
   go_wp2_with fail
   refine (r1.1 _ HB.1.below).mono ?_
   rintro e u1 ⟨rfl, hbl⟩
   clear kHA0 kHA1 kHA2 kHA3 kHC0 kHC1 kHC2 kHC3
   have HB := Kp.mk (HB.1.step hbl)
   have HA := Kp.mk (HA.1.step hbl)
   have HC := Kp.mk (HC.1.step hbl)
   clear hbl
   obtain ⟨kHA0, kHA1, kHA2, kHA3⟩ := HA.1.cs
   obtain ⟨kHC0, kHC1, kHC2, kHC3⟩ := HC.1.cs
   go_wp2_with fail
   refine (r2.1 _ HB.1.below).mono ?_
   rintro e u2 ⟨rfl, hbl⟩
   clear kHA0 kHA1 kHA2 kHA3 kHC0 kHC1 kHC2 kHC3
   have HB := Kp.mk (HB.1.step hbl)
   have HA := Kp.mk (HA.1.step hbl)
   have HC := Kp.mk (HC.1.step hbl)
   clear hbl
   obtain ⟨kHA0, kHA1, kHA2, kHA3⟩ := HA.1.cs
   obtain ⟨kHC0, kHC1, kHC2, kHC3⟩ := HC.1.cs
   go_upto_region 4 with fail
   clear kHA0 kHA1 kHA2 kHA3 kHC0 kHC1 kHC2 kHC3
   have HX := Kp.mk (eb_new 0 n 24 HB.1.below)
   have hbl := (Below.refl u2.heap.size u2).alloc (Nat.le_refl _) (.cells #[.int .i8 0, .int .i64 n] 24)
   have HB := Kp.mk (HB.1.step hbl)
   have HA := Kp.mk (HA.1.step hbl)
   have HC := Kp.mk (HC.1.step hbl)
   clear hbl
   generalize u2.alloc (.cells #[.int .i8 0, .int .i64 n] 24) = u3 at *
   generalize u2.heap.size = gx at *
   obtain ⟨kHA0, kHA1, kHA2, kHA3⟩ := HA.1.cs
   obtain ⟨kHC0, kHC1, kHC2, kHC3⟩ := HC.1.cs
   have kHX0 := HX.1.c0
   have kHX1 := HX.1.c1
   go_wp2_with fail
   go_ret
   exact ⟨rfl, HB.1.below⟩
set_option maxHeartbeats 4000000 in
theorem dTouch_is {a b : Rn} {v : Bool} (ha : a.In) (hb : b.In) (hv : touchN a b = v) (w : World) (hL : LaidEn w) :
 Calls Tryz.prog 16 #[.agg #[.int .i8 a.f, .int .i64 a.d, .int .i8 a.g, .int .i64 a.e], .agg #[.int .i8 b.f, .int .i64 b.d, .int .i8 b.g, .int .i64 b.e]] w fun x w' => x = .returned (.bool v) ∧ Below w.heap.size w w' := by
 have HA := Kp.mk (rg_two w a b).1
 have HC := Kp.mk (rg_two w a b).2
 have HB := Kp.mk (bl_of HA.1)
 by_cases h0 : chkR a = 0 ∧ chkR b = 0
 ·have hv' : decide (a.lo ≤ b.hi + 1 ∧ b.lo ≤ a.hi + 1) = v := by rw [← hv]; unfold touchN; rw [decide_eq_decide]; omega
  have hA := (chkR_zero ha).1 h0.1
  have hC := (chkR_zero hb).1 h0.2
  have r1 : Kp (∀ u, Below w.heap.size w u → Calls Tryz.prog 45 #[rv a, rv b] u fun e w' => e = .returned (.bool true) ∧ Below u.heap.size u w') := Kp.mk (fun u hw => dAre_is ha hb (decide_eq_true h0) u (hL.below hw))
  obtain ⟨x, hx⟩ : ∃ x, decide (b.lo ≤ a.hi + 1) = x := ⟨_, rfl⟩
  obtain ⟨y, hy⟩ : ∃ y, decide (a.lo ≤ b.hi + 1) = y := ⟨_, rfl⟩
  have r2 : Kp (∀ u, Below w.heap.size w u → Calls Tryz.prog 46 #[rv a, rv b] u fun e w' => e = .returned (.bool x) ∧ Below u.heap.size u w') := Kp.mk (fun u hw => dReach_is hA hC hx u (hL.below hw))
  have r3 : Kp (∀ u, Below w.heap.size w u → Calls Tryz.prog 46 #[rv b, rv a] u fun e w' => e = .returned (.bool y) ∧ Below u.heap.size u w') := Kp.mk (fun u hw => dReach_is hC hA hy u (hL.below hw))
  clear hA hC ha hb hL h0 hv
  cases x with
  | true =>
   obtain rfl : y = v := by rw [← hy, ← hv', decide_eq_decide]; have := of_decide_eq_true hx; omega
   clear hx hy hv'
   go_enter Tryz.func16, Tryz.ntmps16
   go_upto_region 1 with fail
   generalize ((w.alloc (.cells #[.int .i8 a.f, .int .i64 a.d, .int .i8 a.g, .int .i64 a.e] 26)).alloc (.cells #[.int .i8 b.f, .int .i64 b.d, .int .i8 b.g, .int .i64 b.e] 26)) = w0 at *
   obtain ⟨kHA0, kHA1, kHA2, kHA3⟩ := HA.1.cs
   obtain ⟨kHC0, kHC1, kHC2, kHC3⟩ := HC.1.cs
   go_wp2_with fail
   refine (r1.1 _ HB.1.below).mono ?_
   rintro e u1 ⟨rfl, hbl⟩
   clear kHA0 kHA1 kHA2 kHA3 kHC0 kHC1 kHC2 kHC3
   have HB := Kp.mk (HB.1.step hbl)
   have HA := Kp.mk (HA.1.step hbl)
   have HC := Kp.mk (HC.1.step hbl)
   clear hbl
   obtain ⟨kHA0, kHA1, kHA2, kHA3⟩ := HA.1.cs
   obtain ⟨kHC0, kHC1, kHC2, kHC3⟩ := HC.1.cs
   go_wp2_with fail
   refine (r2.1 _ HB.1.below).mono ?_
   rintro e u2 ⟨rfl, hbl⟩
   clear kHA0 kHA1 kHA2 kHA3 kHC0 kHC1 kHC2 kHC3
   have HB := Kp.mk (HB.1.step hbl)
   have HA := Kp.mk (HA.1.step hbl)
   have HC := Kp.mk (HC.1.step hbl)
   clear hbl
   obtain ⟨kHA0, kHA1, kHA2, kHA3⟩ := HA.1.cs
   obtain ⟨kHC0, kHC1, kHC2, kHC3⟩ := HC.1.cs
   go_wp2_with fail
   refine (r3.1 _ HB.1.below).mono ?_
   rintro e u3 ⟨rfl, hbl⟩
   clear kHA0 kHA1 kHA2 kHA3 kHC0 kHC1 kHC2 kHC3
   have HB := Kp.mk (HB.1.step hbl)
   have HA := Kp.mk (HA.1.step hbl)
   have HC := Kp.mk (HC.1.step hbl)
   clear hbl
   obtain ⟨kHA0, kHA1, kHA2, kHA3⟩ := HA.1.cs
   obtain ⟨kHC0, kHC1, kHC2, kHC3⟩ := HC.1.cs
   go_wp2_with fail
   go_ret
   exact ⟨rfl, HB.1.below⟩
  | false =>
   obtain rfl : false = v := by rw [← hv']; symm; rw [decide_eq_false_iff_not]; have := of_decide_eq_false hx; omega
   clear hx hy hv'
   go_enter Tryz.func16, Tryz.ntmps16
   go_upto_region 1 with fail
   generalize ((w.alloc (.cells #[.int .i8 a.f, .int .i64 a.d, .int .i8 a.g, .int .i64 a.e] 26)).alloc (.cells #[.int .i8 b.f, .int .i64 b.d, .int .i8 b.g, .int .i64 b.e] 26)) = w0 at *
   obtain ⟨kHA0, kHA1, kHA2, kHA3⟩ := HA.1.cs
   obtain ⟨kHC0, kHC1, kHC2, kHC3⟩ := HC.1.cs
   go_wp2_with fail
   refine (r1.1 _ HB.1.below).mono ?_
   rintro e u1 ⟨rfl, hbl⟩
   clear kHA0 kHA1 kHA2 kHA3 kHC0 kHC1 kHC2 kHC3
   have HB := Kp.mk (HB.1.step hbl)
   have HA := Kp.mk (HA.1.step hbl)
   have HC := Kp.mk (HC.1.step hbl)
   clear hbl
   obtain ⟨kHA0, kHA1, kHA2, kHA3⟩ := HA.1.cs
   obtain ⟨kHC0, kHC1, kHC2, kHC3⟩ := HC.1.cs
   go_wp2_with fail
   refine (r2.1 _ HB.1.below).mono ?_
   rintro e u2 ⟨rfl, hbl⟩
   clear kHA0 kHA1 kHA2 kHA3 kHC0 kHC1 kHC2 kHC3
   have HB := Kp.mk (HB.1.step hbl)
   have HA := Kp.mk (HA.1.step hbl)
   have HC := Kp.mk (HC.1.step hbl)
   clear hbl
   obtain ⟨kHA0, kHA1, kHA2, kHA3⟩ := HA.1.cs
   obtain ⟨kHC0, kHC1, kHC2, kHC3⟩ := HC.1.cs
   go_wp2_with fail
   go_ret
   exact ⟨rfl, HB.1.below⟩
 ·obtain rfl : false = v := by rw [← hv]; unfold touchN; symm; rw [decide_eq_false_iff_not]; exact fun h => h0 ⟨h.1, h.2.1⟩
  have r1 : Kp (∀ u, Below w.heap.size w u → Calls Tryz.prog 45 #[rv a, rv b] u fun e w' => e = .returned (.bool false) ∧ Below u.heap.size u w') := Kp.mk (fun u hw => dAre_is ha hb (decide_eq_false h0) u (hL.below hw))
  clear ha hb hL h0 hv
  go_enter Tryz.func16, Tryz.ntmps16
  go_upto_region 1 with fail
  generalize ((w.alloc (.cells #[.int .i8 a.f, .int .i64 a.d, .int .i8 a.g, .int .i64 a.e] 26)).alloc (.cells #[.int .i8 b.f, .int .i64 b.d, .int .i8 b.g, .int .i64 b.e] 26)) = w0 at *
  obtain ⟨kHA0, kHA1, kHA2, kHA3⟩ := HA.1.cs
  obtain ⟨kHC0, kHC1, kHC2, kHC3⟩ := HC.1.cs
  go_wp2_with fail
  refine (r1.1 _ HB.1.below).mono ?_
  rintro e u1 ⟨rfl, hbl⟩
  clear kHA0 kHA1 kHA2 kHA3 kHC0 kHC1 kHC2 kHC3
  have HB := Kp.mk (HB.1.step hbl)
  have HA := Kp.mk (HA.1.step hbl)
  have HC := Kp.mk (HC.1.step hbl)
  clear hbl
  obtain ⟨kHA0, kHA1, kHA2, kHA3⟩ := HA.1.cs
  obtain ⟨kHC0, kHC1, kHC2, kHC3⟩ := HC.1.cs
  go_wp2_with fail
  go_ret
  exact ⟨rfl, HB.1.below⟩
end Go.Proofs.YteddfolhpoikcaaGreatDoor
