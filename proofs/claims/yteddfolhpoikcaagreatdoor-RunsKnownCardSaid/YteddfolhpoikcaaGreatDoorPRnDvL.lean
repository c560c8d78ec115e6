/-
 DERIVED. CONTRACTS of package runs (the developers' functions): Len, right, endsOf, runOf, shift, each over ends, Shift. Written by mkrnd4.py.
-/
import Derived.Test.YteddfolhpoikcaaGreatDoorPRnDv
import Derived.Test.YteddfolhpoikcaaGreatDoorPRnOb
import Derived.Test.YteddfolhpoikcaaGreatDoorPIn
namespace Go.Proofs.YteddfolhpoikcaaGreatDoor
open Go.RowKit
set_option maxRecDepth 100000

theorem infoPe : (Tryz.prog.info? 71).map (·.size) = some 4 := by kernel_rfl
set_option maxHeartbeats 8000000 in
theorem dLen_bad {r : Rn} {c : Int} (hr : r.In) (hc : chkR r = c) (h0 : ¬ c = 0) (w : World) (hL : LaidEn w) :
 Calls Tryz.prog 25 #[.agg #[.int .i8 r.f, .int .i64 r.d, .int .i8 r.g, .int .i64 r.e]] w fun x w' => x = .returned (.tuple #[.int .i64 0, .int .i64 c]) ∧ Below w.heap.size w w' := by
 have HA := Kp.mk (rg_new r 26 (Below.refl w.heap.size w))
 have HB := Kp.mk (bl_of HA.out)
 have r1 : Kp (∀ u, Below w.heap.size w u → Calls Tryz.prog 9 #[.agg #[.int .i8 r.f, .int .i64 r.d, .int .i8 r.g, .int .i64 r.e]] u fun e w' => e = .returned (.int .i64 c) ∧ Below u.heap.size u w') := Kp.mk (fun u hw => dRChk_is hr hc u (hL.below hw))
 have t1 : (c != 0) = true := by rw [bne_iff_ne]; exact h0
 clear hr hc h0 hL
 go_enter Tryz.func25, Tryz.ntmps25
 go_upto_region 1 with fail
 generalize (w.alloc (.cells #[.int .i8 r.f, .int .i64 r.d, .int .i8 r.g, .int .i64 r.e] 26)) = w0 at *
 have kHA0 := HA.out.c0
 have kHA1 := HA.out.c1
 have kHA2 := HA.out.c2
 have kHA3 := HA.out.c3
 go_wp2_with fail
 refine (r1.out _ HB.out.below).mono ?_
 rintro e u1 ⟨rfl, hbl⟩
 clear kHA0 kHA1 kHA2 kHA3
 have HB := Kp.mk (HB.out.step hbl)
 have HA := Kp.mk (HA.out.step hbl)
 clear hbl
 have kHA0 := HA.out.c0
 have kHA1 := HA.out.c1
 have kHA2 := HA.out.c2
 have kHA3 := HA.out.c3
 go_wp2_with fail
 go_ret2
 exact ⟨rfl, HB.out.below⟩
set_option maxHeartbeats 8000000 in
theorem dLen_ok {r : Rn} {n e : Int} (hr : r.In) (hc : chkR r = 0) (hn : lenN r = n) (he : lenC r = e) (w : World) (hL : LaidEn w) :
 Calls Tryz.prog 25 #[.agg #[.int .i8 r.f, .int .i64 r.d, .int .i8 r.g, .int .i64 r.e]] w fun x w' => x = .returned (.tuple #[.int .i64 n, .int .i64 e]) ∧ Below w.heap.size w w' := by
 have HA := Kp.mk (rg_new r 26 (Below.refl w.heap.size w))
 have HB := Kp.mk (bl_of HA.out)
 have r1 : Kp (∀ u, Below w.heap.size w u → Calls Tryz.prog 9 #[.agg #[.int .i8 r.f, .int .i64 r.d, .int .i8 r.g, .int .i64 r.e]] u fun e w' => e = .returned (.int .i64 0) ∧ Below u.heap.size u w') := Kp.mk (fun u hw => dRChk_is hr hc u (hL.below hw))
 have hk := (chkR_zero hr).1 hc
 have d0 := hr.d0
 have d1 := hr.d1
 have e0 := hr.e0
 have e1 := hr.e1
 have hle := hk.le
 clear hk hr hc hL
 by_cases h1 : r.f = 0
 ·have t1 : (r.f != 0) = false := by rw [bne_eq_false_iff_eq]; exact h1
  by_cases h2 : r.g = 0
  ·have t2 : (r.g != 0) = false := by rw [bne_eq_false_iff_eq]; exact h2
   have hle := hle h1 h2
   unfold lenN at hn
   unfold lenC at he
   rw [if_pos ⟨h1, h2⟩] at he
   obtain ⟨s, hs⟩ : ∃ s, r.e - r.d = s := ⟨_, rfl⟩
   by_cases h3 : r.e - r.d ≤ 9223372036854775807
   ·have q2 := fun u => sub_in r.e r.d u (by omega) h3 e0 e1 d0 d1
    rw [hs] at q2
    have r2 : Kp (∀ u, Below w.heap.size w u → Calls Tryz.prog 48 #[.int .i64 r.e, .int .i64 r.d] u fun e w' => e = .returned (.tuple #[.int .i64 s, .int .i64 0]) ∧ Below u.heap.size u w') := Kp.mk (fun u hw => q2 u)
    by_cases h4 : s + 1 ≤ 9223372036854775807
    ·rw [if_pos ⟨h1, h2, by omega⟩] at hn
     rw [if_pos (by omega)] at he
     subst he
     have q3 := fun u => add_in s 1 u (by omega) h4 (by omega) (by omega) (by omega) (by omega)
     rw [show s + 1 = n by omega] at q3
     have r3 : Kp (∀ u, Below w.heap.size w u → Calls Tryz.prog 49 #[.int .i64 s, .int .i64 1] u fun e w' => e = .returned (.tuple #[.int .i64 n, .int .i64 0]) ∧ Below u.heap.size u w') := Kp.mk (fun u hw => q3 u)
     clear hn h1 h2 h3 h4 hs q2 q3 hle d0 d1 e0 e1
     go_enter Tryz.func25, Tryz.ntmps25
     go_upto_region 1 with fail
     generalize (w.alloc (.cells #[.int .i8 r.f, .int .i64 r.d, .int .i8 r.g, .int .i64 r.e] 26)) = w0 at *
     have kHA0 := HA.out.c0
     have kHA1 := HA.out.c1
     have kHA2 := HA.out.c2
     have kHA3 := HA.out.c3
     go_wp2_with fail
     refine (r1.out _ HB.out.below).mono ?_
     rintro e u1 ⟨rfl, hbl⟩
     clear kHA0 kHA1 kHA2 kHA3
     have HB := Kp.mk (HB.out.step hbl)
     have HA := Kp.mk (HA.out.step hbl)
     clear hbl
     have kHA0 := HA.out.c0
     have kHA1 := HA.out.c1
     have kHA2 := HA.out.c2
     have kHA3 := HA.out.c3
     go_wp2_with fail
     refine (r2.out _ HB.out.below).mono ?_
     rintro e u2 ⟨rfl, hbl⟩
     clear kHA0 kHA1 kHA2 kHA3
     have HB := Kp.mk (HB.out.step hbl)
     have HA := Kp.mk (HA.out.step hbl)
     clear hbl
     have kHA0 := HA.out.c0
     have kHA1 := HA.out.c1
     have kHA2 := HA.out.c2
     have kHA3 := HA.out.c3
     go_wp2_with fail
     refine (r3.out _ HB.out.below).mono ?_
     rintro e u3 ⟨rfl, hbl⟩
     clear kHA0 kHA1 kHA2 kHA3
     have HB := Kp.mk (HB.out.step hbl)
     have HA := Kp.mk (HA.out.step hbl)
     clear hbl
     have kHA0 := HA.out.c0
     have kHA1 := HA.out.c1
     have kHA2 := HA.out.c2
     have kHA3 := HA.out.c3
     go_wp2_with fail
     go_ret2
     exact ⟨rfl, HB.out.below⟩
    ·rw [if_neg (fun q => by omega)] at hn
     rw [if_neg (by omega)] at he
     subst he hn
     have q3 := fun u => add_out s 1 u (by omega) (by omega) (by omega) (by omega) (by omega)
     have r3 : Kp (∀ u, Below w.heap.size w u → Calls Tryz.prog 49 #[.int .i64 s, .int .i64 1] u fun e w' => e = .returned (.tuple #[.int .i64 0, .int .i64 15]) ∧ Below u.heap.size u w') := Kp.mk (fun u hw => q3 u)
     clear h1 h2 h3 h4 hs q2 q3 hle d0 d1 e0 e1
     go_enter Tryz.func25, Tryz.ntmps25
     go_upto_region 1 with fail
     generalize (w.alloc (.cells #[.int .i8 r.f, .int .i64 r.d, .int .i8 r.g, .int .i64 r.e] 26)) = w0 at *
     have kHA0 := HA.out.c0
     have kHA1 := HA.out.c1
     have kHA2 := HA.out.c2
     have kHA3 := HA.out.c3
     go_wp2_with fail
     refine (r1.out _ HB.out.below).mono ?_
     rintro e u1 ⟨rfl, hbl⟩
     clear kHA0 kHA1 kHA2 kHA3
     have HB := Kp.mk (HB.out.step hbl)
     have HA := Kp.mk (HA.out.step hbl)
     clear hbl
     have kHA0 := HA.out.c0
     have kHA1 := HA.out.c1
     have kHA2 := HA.out.c2
     have kHA3 := HA.out.c3
     go_wp2_with fail
     refine (r2.out _ HB.out.below).mono ?_
     rintro e u2 ⟨rfl, hbl⟩
     clear kHA0 kHA1 kHA2 kHA3
     have HB := Kp.mk (HB.out.step hbl)
     have HA := Kp.mk (HA.out.step hbl)
     clear hbl
     have kHA0 := HA.out.c0
     have kHA1 := HA.out.c1
     have kHA2 := HA.out.c2
     have kHA3 := HA.out.c3
     go_wp2_with fail
     refine (r3.out _ HB.out.below).mono ?_
     rintro e u3 ⟨rfl, hbl⟩
     clear kHA0 kHA1 kHA2 kHA3
     have HB := Kp.mk (HB.out.step hbl)
     have HA := Kp.mk (HA.out.step hbl)
     clear hbl
     have kHA0 := HA.out.c0
     have kHA1 := HA.out.c1
     have kHA2 := HA.out.c2
     have kHA3 := HA.out.c3
     go_wp2_with fail
     go_ret2
     exact ⟨rfl, HB.out.below⟩
   ·rw [if_neg (fun q => by omega)] at hn
    rw [if_neg (by omega)] at he
    subst he hn
    have q2 := fun u => sub_out r.e r.d u e0 e1 d0 d1 (by omega)
    have r2 : Kp (∀ u, Below w.heap.size w u → Calls Tryz.prog 48 #[.int .i64 r.e, .int .i64 r.d] u fun e w' => e = .returned (.tuple #[.int .i64 0, .int .i64 15]) ∧ Below u.heap.size u w') := Kp.mk (fun u hw => q2 u)
    clear h1 h2 h3 hs q2 hle d0 d1 e0 e1
    go_enter Tryz.func25, Tryz.ntmps25
    go_upto_region 1 with fail
    generalize (w.alloc (.cells #[.int .i8 r.f, .int .i64 r.d, .int .i8 r.g, .int .i64 r.e] 26)) = w0 at *
    have kHA0 := HA.out.c0
    have kHA1 := HA.out.c1
    have kHA2 := HA.out.c2
    have kHA3 := HA.out.c3
    go_wp2_with fail
    refine (r1.out _ HB.out.below).mono ?_
    rintro e u1 ⟨rfl, hbl⟩
    clear kHA0 kHA1 kHA2 kHA3
    have HB := Kp.mk (HB.out.step hbl)
    have HA := Kp.mk (HA.out.step hbl)
    clear hbl
    have kHA0 := HA.out.c0
    have kHA1 := HA.out.c1
    have kHA2 := HA.out.c2
    have kHA3 := HA.out.c3
    go_wp2_with fail
    refine (r2.out _ HB.out.below).mono ?_
    rintro e u2 ⟨rfl, hbl⟩
    clear kHA0 kHA1 kHA2 kHA3
    have HB := Kp.mk (HB.out.step hbl)
    have HA := Kp.mk (HA.out.step hbl)
    clear hbl
    have kHA0 := HA.out.c0
    have kHA1 := HA.out.c1
    have kHA2 := HA.out.c2
    have kHA3 := HA.out.c3
    go_wp2_with fail
    go_ret2
    exact ⟨rfl, HB.out.below⟩
  ·have t2 : (r.g != 0) = true := by rw [bne_iff_ne]; exact h2
   obtain rfl : 0 = n := by rw [← hn]; unfold lenN; rw [if_neg (fun q => h2 q.2.1)]
   obtain rfl : 16 = e := by rw [← he]; unfold lenC; rw [if_neg (fun q => h2 q.2)]
   clear hn he h1 h2 hle d0 d1 e0 e1
   go_enter Tryz.func25, Tryz.ntmps25
   go_upto_region 1 with fail
   generalize (w.alloc (.cells #[.int .i8 r.f, .int .i64 r.d, .int .i8 r.g, .int .i64 r.e] 26)) = w0 at *
   have kHA0 := HA.out.c0
   have kHA1 := HA.out.c1
   have kHA2 := HA.out.c2
   have kHA3 := HA.out.c3
   go_wp2_with fail
   refine (r1.out _ HB.out.below).mono ?_
   rintro e u1 ⟨rfl, hbl⟩
   clear kHA0 kHA1 kHA2 kHA3
   have HB := Kp.mk (HB.out.step hbl)
   have HA := Kp.mk (HA.out.step hbl)
   clear hbl
   have kHA0 := HA.out.c0
   have kHA1 := HA.out.c1
   have kHA2 := HA.out.c2
   have kHA3 := HA.out.c3
   go_wp2_with fail
   go_ret2
   exact ⟨rfl, HB.out.below⟩
 ·have t1 : (r.f != 0) = true := by rw [bne_iff_ne]; exact h1
  obtain rfl : 0 = n := by rw [← hn]; unfold lenN; rw [if_neg (fun q => h1 q.1)]
  obtain rfl : 16 = e := by rw [← he]; unfold lenC; rw [if_neg (fun q => h1 q.1)]
  clear hn he h1 hle d0 d1 e0 e1
  go_enter Tryz.func25, Tryz.ntmps25
  go_upto_region 1 with fail
  generalize (w.alloc (.cells #[.int .i8 r.f, .int .i64 r.d, .int .i8 r.g, .int .i64 r.e] 26)) = w0 at *
  have kHA0 := HA.out.c0
  have kHA1 := HA.out.c1
  have kHA2 := HA.out.c2
  have kHA3 := HA.out.c3
  go_wp2_with fail
  refine (r1.out _ HB.out.below).mono ?_
  rintro e u1 ⟨rfl, hbl⟩
  clear kHA0 kHA1 kHA2 kHA3
  have HB := Kp.mk (HB.out.step hbl)
  have HA := Kp.mk (HA.out.step hbl)
  clear hbl
  have kHA0 := HA.out.c0
  have kHA1 := HA.out.c1
  have kHA2 := HA.out.c2
  have kHA3 := HA.out.c3
  go_wp2_with fail
  go_ret2
  exact ⟨rfl, HB.out.below⟩
set_option maxHeartbeats 8000000 in
theorem dRight_ok {r : Rn} (hr : r.In) (hc : chkR r = 0) (w : World) (hL : LaidEn w) :
 Calls Tryz.prog 55 #[.agg #[.int .i8 r.f, .int .i64 r.d, .int .i8 r.g, .int .i64 r.e]] w fun x w' => x = .returned (.tuple #[.agg #[.int .i8 r.f, .int .i64 r.d, .int .i8 r.g, .int .i64 r.e], .int .i64 0]) ∧ Below w.heap.size w w' := by
 obtain ⟨h1, h2⟩ := ob_two w #[.int .i8 r.f, .int .i64 r.d, .int .i8 r.g, .int .i64 r.e] #[.int .i8 0, .int .i64 0, .int .i8 0, .int .i64 0] 26 26
 have HA := Kp.mk h1.rg
 have HR := Kp.mk h2
 have HB := Kp.mk (Bl.mk h1.below)
 clear h1 h2
 have r1 : Kp (∀ u, Below w.heap.size w u → Calls Tryz.prog 9 #[.agg #[.int .i8 r.f, .int .i64 r.d, .int .i8 r.g, .int .i64 r.e]] u fun e w' => e = .returned (.int .i64 0) ∧ Below u.heap.size u w') := Kp.mk (fun u hw => dRChk_is hr hc u (hL.below hw))
 clear hr hc hL
 go_enter Tryz.func55, Tryz.ntmps55
 go_upto_region 1 with fail
 generalize (w.alloc (.cells #[.int .i8 r.f, .int .i64 r.d, .int .i8 r.g, .int .i64 r.e] 26)).alloc (.cells #[.int .i8 0, .int .i64 0, .int .i8 0, .int .i64 0] 26) = w0 at *
 have kHA0 := HA.out.c0
 have kHA1 := HA.out.c1
 have kHA2 := HA.out.c2
 have kHA3 := HA.out.c3
 go_wp2_with fail
 refine (r1.out _ HB.out.below).mono ?_
 rintro e u1 ⟨rfl, hbl⟩
 clear kHA0 kHA1 kHA2 kHA3
 have HB := Kp.mk (HB.out.step hbl)
 have HA := Kp.mk (HA.out.step hbl)
 have HR := Kp.mk (HR.out.step hbl)
 clear hbl
 have kHA0 := HA.out.c0
 have kHA1 := HA.out.c1
 have kHA2 := HA.out.c2
 have kHA3 := HA.out.c3
 go_wp2_with (first
  | refine wpList_store_row' rfl 26 (.tmp 2) (.tmp 11) rfl (w.heap.size + 1) #[.int .i8 r.f, .int .i64 r.d, .int .i8 r.g, .int .i64 r.e] rfl rfl 26 #[.int .i8 0, .int .i64 0, .int .i8 0, .int .i64 0] HR.out.heap infoRn rfl (four_rn _ _ _ _) ?_)
 refine bodyPost_ret (results_cell_tmp (p := 2) (ty := 26) rfl _ _ (w.heap.size + 1) 26 #[.int .i8 r.f, .int .i64 r.d, .int .i8 r.g, .int .i64 r.e] (0, 0) _ rfl (setRow_heap _ _ _ _ _ _ HR.out.heap) Tryz.underlying26 rfl infoRn) rfl ?_
 exact ⟨rfl, below_setRow HR.out.below HR.out.base _⟩
set_option maxHeartbeats 8000000 in
theorem dRight_bad {r : Rn} {c : Int} (hr : r.In) (hc : chkR r = c) (h0 : ¬ c = 0) (w : World) (hL : LaidEn w) :
 Calls Tryz.prog 55 #[.agg #[.int .i8 r.f, .int .i64 r.d, .int .i8 r.g, .int .i64 r.e]] w fun x w' => x = .returned (.tuple #[.agg #[.int .i8 0, .int .i64 0, .int .i8 0, .int .i64 0], .int .i64 c]) ∧ Below w.heap.size w w' := by
 obtain ⟨h1, h2⟩ := ob_two w #[.int .i8 r.f, .int .i64 r.d, .int .i8 r.g, .int .i64 r.e] #[.int .i8 0, .int .i64 0, .int .i8 0, .int .i64 0] 26 26
 have HA := Kp.mk h1.rg
 have HR := Kp.mk h2
 have HB := Kp.mk (Bl.mk h1.below)
 clear h1 h2
 have r1 : Kp (∀ u, Below w.heap.size w u → Calls Tryz.prog 9 #[.agg #[.int .i8 r.f, .int .i64 r.d, .int .i8 r.g, .int .i64 r.e]] u fun e w' => e = .returned (.int .i64 c) ∧ Below u.heap.size u w') := Kp.mk (fun u hw => dRChk_is hr hc u (hL.below hw))
 have t1 : (c != 0) = true := by rw [bne_iff_ne]; exact h0
 clear hr hc h0 hL
 go_enter Tryz.func55, Tryz.ntmps55
 go_upto_region 1 with fail
 generalize (w.alloc (.cells #[.int .i8 r.f, .int .i64 r.d, .int .i8 r.g, .int .i64 r.e] 26)).alloc (.cells #[.int .i8 0, .int .i64 0, .int .i8 0, .int .i64 0] 26) = w0 at *
 have kHA0 := HA.out.c0
 have kHA1 := HA.out.c1
 have kHA2 := HA.out.c2
 have kHA3 := HA.out.c3
 go_wp2_with fail
 refine (r1.out _ HB.out.below).mono ?_
 rintro e u1 ⟨rfl, hbl⟩
 clear kHA0 kHA1 kHA2 kHA3
 have HB := Kp.mk (HB.out.step hbl)
 have HA := Kp.mk (HA.out.step hbl)
 have HR := Kp.mk (HR.out.step hbl)
 clear hbl
 have kHA0 := HA.out.c0
 have kHA1 := HA.out.c1
 have kHA2 := HA.out.c2
 have kHA3 := HA.out.c3
 go_wp2_with (first
  | refine wpList_store_row' rfl 26 (.tmp 2) (.tmp 9) rfl (w.heap.size + 1) #[.int .i8 0, .int .i64 0, .int .i8 0, .int .i64 0] rfl rfl 26 #[.int .i8 0, .int .i64 0, .int .i8 0, .int .i64 0] HR.out.heap infoRn rfl (four_rn _ _ _ _) ?_)
 refine bodyPost_ret (results_cell_tmp (p := 2) (ty := 26) rfl _ _ (w.heap.size + 1) 26 #[.int .i8 0, .int .i64 0, .int .i8 0, .int .i64 0] (0, 0) _ rfl (setRow_heap _ _ _ _ _ _ HR.out.heap) Tryz.underlying26 rfl infoRn) rfl ?_
 exact ⟨rfl, below_setRow HR.out.below HR.out.base _⟩
set_option maxHeartbeats 8000000 in
theorem dEnds_is (r : Rn) (w : World) :
 Calls Tryz.prog 51 #[.agg #[.int .i8 r.f, .int .i64 r.d, .int .i8 r.g, .int .i64 r.e]] w fun x w' => x = .returned (.agg #[.int .i8 r.f, .int .i64 r.d, .int .i8 r.g, .int .i64 r.e]) ∧ Below w.heap.size w w' := by
 obtain ⟨h1, h2⟩ := ob_two w #[.int .i8 r.f, .int .i64 r.d, .int .i8 r.g, .int .i64 r.e] #[.int .i8 0, .int .i64 0, .int .i8 0, .int .i64 0] 26 71
 have HA := Kp.mk h1.rg
 have HR := Kp.mk h2
 have HB := Kp.mk (Bl.mk h1.below)
 clear h1 h2
 go_enter Tryz.func51, Tryz.ntmps51
 go_upto_region 1 with fail
 generalize (w.alloc (.cells #[.int .i8 r.f, .int .i64 r.d, .int .i8 r.g, .int .i64 r.e] 26)).alloc (.cells #[.int .i8 0, .int .i64 0, .int .i8 0, .int .i64 0] 71) = w0 at *
 have kHA0 := HA.out.c0
 have kHA1 := HA.out.c1
 have kHA2 := HA.out.c2
 have kHA3 := HA.out.c3
 go_wp2_with (first
  | refine wpList_store_row' rfl 71 (.tmp 2) (.tmp 7) rfl (w.heap.size + 1) #[.int .i8 r.f, .int .i64 r.d, .int .i8 r.g, .int .i64 r.e] rfl rfl 71 #[.int .i8 0, .int .i64 0, .int .i8 0, .int .i64 0] HR.out.heap infoPe rfl (four_rn _ _ _ _) ?_)
 refine bodyPost_ret (results_cell_row (p := 2) (ty := 71) rfl _ _ (w.heap.size + 1) 71 #[.int .i8 r.f, .int .i64 r.d, .int .i8 r.g, .int .i64 r.e] (0, 0) _ rfl (setRow_heap _ _ _ _ _ _ HR.out.heap) Tryz.underlying71 rfl infoPe) rfl ?_
 exact ⟨rfl, below_setRow HR.out.below HR.out.base _⟩
set_option maxHeartbeats 8000000 in
theorem dRun_is (r : Rn) (w : World) :
 Calls Tryz.prog 54 #[.agg #[.int .i8 r.f, .int .i64 r.d, .int .i8 r.g, .int .i64 r.e]] w fun x w' => x = .returned (.agg #[.int .i8 r.f, .int .i64 r.d, .int .i8 r.g, .int .i64 r.e]) ∧ Below w.heap.size w w' := by
 obtain ⟨h1, h2⟩ := ob_two w #[.int .i8 r.f, .int .i64 r.d, .int .i8 r.g, .int .i64 r.e] #[.int .i8 0, .int .i64 0, .int .i8 0, .int .i64 0] 71 26
 have HA := Kp.mk h1.rg
 have HR := Kp.mk h2
 have HB := Kp.mk (Bl.mk h1.below)
 clear h1 h2
 go_enter Tryz.func54, Tryz.ntmps54
 go_upto_region 1 with fail
 generalize (w.alloc (.cells #[.int .i8 r.f, .int .i64 r.d, .int .i8 r.g, .int .i64 r.e] 71)).alloc (.cells #[.int .i8 0, .int .i64 0, .int .i8 0, .int .i64 0] 26) = w0 at *
 have kHA0 := HA.out.c0
 have kHA1 := HA.out.c1
 have kHA2 := HA.out.c2
 have kHA3 := HA.out.c3
 go_wp2_with (first
  | refine wpList_store_row' rfl 26 (.tmp 2) (.tmp 7) rfl (w.heap.size + 1) #[.int .i8 r.f, .int .i64 r.d, .int .i8 r.g, .int .i64 r.e] rfl rfl 26 #[.int .i8 0, .int .i64 0, .int .i8 0, .int .i64 0] HR.out.heap infoRn rfl (four_rn _ _ _ _) ?_)
 refine bodyPost_ret (results_cell_row (p := 2) (ty := 26) rfl _ _ (w.heap.size + 1) 26 #[.int .i8 r.f, .int .i64 r.d, .int .i8 r.g, .int .i64 r.e] (0, 0) _ rfl (setRow_heap _ _ _ _ _ _ HR.out.heap) Tryz.underlying26 rfl infoRn) rfl ?_
 exact ⟨rfl, below_setRow HR.out.below HR.out.base _⟩
set_option maxHeartbeats 8000000 in
theorem dShiftE_is {f d k g e : Int} {b : Bool} (h : MoveE f d k g e b) (d0 : -9223372036854775808 ≤ d) (d1 : d ≤ 9223372036854775807) (k0 : -9223372036854775808 ≤ k) (k1 : k ≤ 9223372036854775807) (w : World) (hL : LaidEn w) :
 Calls Tryz.prog 53 #[.agg #[.int .i8 f, .int .i64 d], .int .i64 k] w fun x w' => x = .returned (.tuple #[.agg #[.int .i8 g, .int .i64 e], .int .i64 (if b then 0 else 15)]) ∧ Below w.heap.size w w' := by
 obtain ⟨h1, h2⟩ := ob_two w #[.int .i8 f, .int .i64 d] #[.int .i8 0, .int .i64 0] 24 24
 have HA := Kp.mk h1.eb
 have HR := Kp.mk h2
 have HB := Kp.mk (Bl.mk h1.below)
 clear h1 h2
 by_cases h1 : f = 0
 ·have t1 : (f != 0) = false := by rw [bne_eq_false_iff_eq]; exact h1
  by_cases h2 : -9223372036854775808 ≤ d + k ∧ d + k ≤ 9223372036854775807
  ·obtain ⟨rfl, rfl, rfl⟩ := h.fits h1 h2
   obtain ⟨s, hs⟩ : ∃ s, d + k = s := ⟨_, rfl⟩
   have q1 := fun u => add_in d k u h2.1 h2.2 d0 d1 k0 k1
   rw [hs] at h2 q1 ⊢
   have r1 : Kp (∀ u, Below w.heap.size w u → Calls Tryz.prog 49 #[.int .i64 d, .int .i64 k] u fun e w' => e = .returned (.tuple #[.int .i64 s, .int .i64 0]) ∧ Below u.heap.size u w') := Kp.mk (fun u hw => q1 u)
   have r2 : Kp (∀ u, Below w.heap.size w u → Calls Tryz.prog 47 #[.int .i64 s] u fun e w' => e = .returned (.agg #[.int .i8 0, .int .i64 s]) ∧ Below u.heap.size u w') := Kp.mk (fun u hw => endCoreN.of u (hL.below hw) h2.1 h2.2)
   clear h h1 h2 hs q1 d0 d1 k0 k1 hL
   go_enter Tryz.func53, Tryz.ntmps53
   go_upto_region 1 with fail
   generalize (w.alloc (.cells #[.int .i8 f, .int .i64 d] 24)).alloc (.cells #[.int .i8 0, .int .i64 0] 24) = w0 at *
   have kHA0 := HA.out.c0
   have kHA1 := HA.out.c1
   go_wp2_with fail
   refine (r1.out _ HB.out.below).mono ?_
   rintro e u1 ⟨rfl, hbl⟩
   clear kHA0 kHA1
   have HB := Kp.mk (HB.out.step hbl)
   have HA := Kp.mk (HA.out.step hbl)
   have HR := Kp.mk (HR.out.step hbl)
   clear hbl
   have kHA0 := HA.out.c0
   have kHA1 := HA.out.c1
   go_wp2_with fail
   refine (r2.out _ HB.out.below).mono ?_
   rintro e u2 ⟨rfl, hbl⟩
   clear kHA0 kHA1
   have HB := Kp.mk (HB.out.step hbl)
   have HA := Kp.mk (HA.out.step hbl)
   have HR := Kp.mk (HR.out.step hbl)
   clear hbl
   have kHA0 := HA.out.c0
   have kHA1 := HA.out.c1
   go_wp2_with (first
    | refine wpList_store_row' rfl 24 (.tmp 4) (.tmp 20) rfl (w.heap.size + 1) #[.int .i8 0, .int .i64 s] rfl rfl 24 #[.int .i8 0, .int .i64 0] HR.out.heap infoEnd rfl (two_one _ _) ?_)
   refine bodyPost_ret (results_cell_tmp (p := 4) (ty := 24) rfl _ _ (w.heap.size + 1) 24 #[.int .i8 0, .int .i64 s] (0, 0) _ rfl (setRow_heap _ _ _ _ _ _ HR.out.heap) Tryz.underlying24 rfl infoEnd) rfl ?_
   exact ⟨rfl, below_setRow HR.out.below HR.out.base _⟩
  ·obtain ⟨rfl, rfl, rfl⟩ := h.over h1 h2
   have q1 := fun u => add_out d k u d0 d1 k0 k1 h2
   have r1 : Kp (∀ u, Below w.heap.size w u → Calls Tryz.prog 49 #[.int .i64 d, .int .i64 k] u fun e w' => e = .returned (.tuple #[.int .i64 0, .int .i64 15]) ∧ Below u.heap.size u w') := Kp.mk (fun u hw => q1 u)
   have r2 : Kp (∀ u, Below w.heap.size w u → Calls Tryz.prog 47 #[.int .i64 0] u fun e w' => e = .returned (.agg #[.int .i8 0, .int .i64 0]) ∧ Below u.heap.size u w') := Kp.mk (fun u hw => endCoreN.of u (hL.below hw) (by omega) (by omega))
   clear h h1 h2 q1 d0 d1 k0 k1 hL
   go_enter Tryz.func53, Tryz.ntmps53
   go_upto_region 1 with fail
   generalize (w.alloc (.cells #[.int .i8 f, .int .i64 d] 24)).alloc (.cells #[.int .i8 0, .int .i64 0] 24) = w0 at *
   have kHA0 := HA.out.c0
   have kHA1 := HA.out.c1
   go_wp2_with fail
   refine (r1.out _ HB.out.below).mono ?_
   rintro e u1 ⟨rfl, hbl⟩
   clear kHA0 kHA1
   have HB := Kp.mk (HB.out.step hbl)
   have HA := Kp.mk (HA.out.step hbl)
   have HR := Kp.mk (HR.out.step hbl)
   clear hbl
   have kHA0 := HA.out.c0
   have kHA1 := HA.out.c1
   go_wp2_with fail
   refine (r2.out _ HB.out.below).mono ?_
   rintro e u2 ⟨rfl, hbl⟩
   clear kHA0 kHA1
   have HB := Kp.mk (HB.out.step hbl)
   have HA := Kp.mk (HA.out.step hbl)
   have HR := Kp.mk (HR.out.step hbl)
   clear hbl
   have kHA0 := HA.out.c0
   have kHA1 := HA.out.c1
   go_wp2_with (first
    | refine wpList_store_row' rfl 24 (.tmp 4) (.tmp 20) rfl (w.heap.size + 1) #[.int .i8 0, .int .i64 0] rfl rfl 24 #[.int .i8 0, .int .i64 0] HR.out.heap infoEnd rfl (two_one _ _) ?_)
   refine bodyPost_ret (results_cell_tmp (p := 4) (ty := 24) rfl _ _ (w.heap.size + 1) 24 #[.int .i8 0, .int .i64 0] (0, 0) _ rfl (setRow_heap _ _ _ _ _ _ HR.out.heap) Tryz.underlying24 rfl infoEnd) rfl ?_
   exact ⟨rfl, below_setRow HR.out.below HR.out.base _⟩
 ·have t1 : (f != 0) = true := by rw [bne_iff_ne]; exact h1
  obtain ⟨rfl, rfl, rfl⟩ := h.inf h1
  clear h h1 d0 d1 k0 k1 hL
  go_enter Tryz.func53, Tryz.ntmps53
  go_upto_region 1 with fail
  generalize (w.alloc (.cells #[.int .i8 g, .int .i64 e] 24)).alloc (.cells #[.int .i8 0, .int .i64 0] 24) = w0 at *
  have kHA0 := HA.out.c0
  have kHA1 := HA.out.c1
  go_wp2_with (first
   | refine wpList_store_row' rfl 24 (.tmp 4) (.tmp 11) rfl (w.heap.size + 1) #[.int .i8 g, .int .i64 e] rfl rfl 24 #[.int .i8 0, .int .i64 0] HR.out.heap infoEnd rfl (two_one _ _) ?_)
  refine bodyPost_ret (results_cell_tmp (p := 4) (ty := 24) rfl _ _ (w.heap.size + 1) 24 #[.int .i8 g, .int .i64 e] (0, 0) _ rfl (setRow_heap _ _ _ _ _ _ HR.out.heap) Tryz.underlying24 rfl infoEnd) rfl ?_
  exact ⟨rfl, below_setRow HR.out.below HR.out.base _⟩
set_option maxHeartbeats 8000000 in
theorem dClo_is {f d k g i c : Int} {b : Bool} {p : Nat} (h : MoveE f d k g i b) (hc : (if b then 0 else 15) = c) (d0 : -9223372036854775808 ≤ d) (d1 : d ≤ 9223372036854775807) (k0 : -9223372036854775808 ≤ k) (k1 : k ≤ 9223372036854775807) (w : World) (hL : LaidEn w) (hp : p < w.heap.size) (hk : w.cell? ⟨p, 0, none⟩ = some (.int .i64 k)) :
 Calls Tryz.prog 52 #[.agg #[.int .i8 f, .int .i64 d], .pointer (some ⟨p, 0, none⟩)] w fun x w' => x = .returned (.tuple #[.agg #[.int .i8 g, .int .i64 i], .int .i64 c]) ∧ Below w.heap.size w w' := by
 obtain ⟨h1, h2⟩ := ob_two w #[.int .i8 f, .int .i64 d] #[.int .i8 0, .int .i64 0] 24 24
 have HA := Kp.mk h1.eb
 have HR := Kp.mk h2
 have HB := Kp.mk (Bl.mk h1.below)
 clear h1 h2
 have r1 : Kp (∀ u, Below w.heap.size w u → Calls Tryz.prog 53 #[.agg #[.int .i8 f, .int .i64 d], .int .i64 k] u fun e w' => e = .returned (.tuple #[.agg #[.int .i8 g, .int .i64 i], .int .i64 c]) ∧ Below u.heap.size u w') := Kp.mk (fun u hw => by rw [← hc]; exact dShiftE_is h d0 d1 k0 k1 u (hL.below hw))
 clear h hc d0 d1 k0 k1 hL
 go_enter Tryz.func52, Tryz.ntmps52
 go_upto_region 1 with fail
 generalize (w.alloc (.cells #[.int .i8 f, .int .i64 d] 24)).alloc (.cells #[.int .i8 0, .int .i64 0] 24) = w0 at *
 have kHA0 := HA.out.c0
 have kHA1 := HA.out.c1
 clear kHA0 kHA1
 have kk : w0.cell? ⟨p, 0, none⟩ = some (.int .i64 k) := by rw [HB.out.below.cell (p := ⟨p, 0, none⟩) hp]; exact hk
 clear hk hp
 have kHA0 := HA.out.c0
 have kHA1 := HA.out.c1
 go_wp2_with fail
 refine (r1.out _ HB.out.below).mono ?_
 rintro e u1 ⟨rfl, hbl⟩
 clear kHA0 kHA1
 have HB := Kp.mk (HB.out.step hbl)
 have HA := Kp.mk (HA.out.step hbl)
 have HR := Kp.mk (HR.out.step hbl)
 clear hbl
 have kHA0 := HA.out.c0
 have kHA1 := HA.out.c1
 go_wp2_with (first
  | refine wpList_store_row' rfl 24 (.tmp 3) (.tmp 8) rfl (w.heap.size + 1) #[.int .i8 g, .int .i64 i] rfl rfl 24 #[.int .i8 0, .int .i64 0] HR.out.heap infoEnd rfl (two_one _ _) ?_)
 refine bodyPost_ret (results_cell_tmp (p := 3) (ty := 24) rfl _ _ (w.heap.size + 1) 24 #[.int .i8 g, .int .i64 i] (0, 0) _ rfl (setRow_heap _ _ _ _ _ _ HR.out.heap) Tryz.underlying24 rfl infoEnd) rfl ?_
 exact ⟨rfl, below_setRow HR.out.below HR.out.base _⟩
end Go.Proofs.YteddfolhpoikcaaGreatDoor
