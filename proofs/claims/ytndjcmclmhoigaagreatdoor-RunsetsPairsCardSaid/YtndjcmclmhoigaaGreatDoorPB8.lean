/-
 DERIVED. What package ends gives, as a structure of contracts.
 DERIVED. Package ends (the developers' functions), as its structure of contracts.
 DERIVED. CONTRACTS of package runs (the developers' functions): Check, areRight, reaches, Touch. Written by mkrnd1.py.
 DERIVED. Blocks of a walk's own that hold a run or an end, by their heap rows (for what is stored into again).
-/
import Derived.Test.YtndjcmclmhoigaaGreatDoorPA3
import Derived.Test.YtndjcmclmhoigaaGreatDoorPB7
import Derived.Test.YtndjcmclmhoigaaGreatDoorPA4
import Derived.Deep.RegionHeld3
namespace Go.Proofs.YtndjcmclmhoigaaGreatDoor
open Go.RowKit
set_option maxRecDepth 100000

/-- what package ends gives, but for Prev -/
structure EndCoreN (I : World → Prop) : Prop where
 keep : ∀ {w w' : World}, I w → Below w.heap.size w w' → I w'
 check : ∀ {f d c : Int} (w : World), I w → -9223372036854775808 ≤ d → d ≤ 9223372036854775807 → chkE f d = c → Calls Tryz.prog 74 #[.agg #[.int .i8 f, .int .i64 d]] w fun x w' => x = .returned (.int .i64 c) ∧ Below w.heap.size w w'
 of : ∀ {d : Int} (w : World), I w → -9223372036854775808 ≤ d → d ≤ 9223372036854775807 → Calls Tryz.prog 83 #[.int .i64 d] w fun x w' => x = .returned (.agg #[.int .i8 0, .int .i64 d]) ∧ Below w.heap.size w w'
 cmp : ∀ {f d g e v : Int} (w : World), I w → -9223372036854775808 ≤ d → d ≤ 9223372036854775807 → -9223372036854775808 ≤ e → e ≤ 9223372036854775807 → cmpE f d g e = v → Calls Tryz.prog 75 #[.agg #[.int .i8 f, .int .i64 d], .agg #[.int .i8 g, .int .i64 e]] w fun x w' => x = .returned (.int .i64 v) ∧ Below w.heap.size w w'
 next : ∀ {f d g e c : Int} (w : World), I w → -9223372036854775808 ≤ d → d ≤ 9223372036854775807 → StepE true f d g e c → Calls Tryz.prog 129 #[.agg #[.int .i8 f, .int .i64 d]] w fun x w' => x = .returned (.tuple #[.agg #[.int .i8 g, .int .i64 e], .int .i64 c]) ∧ Below w.heap.size w w'
 min_le : ∀ {f d g e : Int} (w : World), I w → -9223372036854775808 ≤ d → d ≤ 9223372036854775807 → -9223372036854775808 ≤ e → e ≤ 9223372036854775807 → cmpE f d g e ≤ 0 → Calls Tryz.prog 79 #[.agg #[.int .i8 f, .int .i64 d], .agg #[.int .i8 g, .int .i64 e]] w fun x w' => x = .returned (.agg #[.int .i8 f, .int .i64 d]) ∧ Below w.heap.size w w'
 min_gt : ∀ {f d g e : Int} (w : World), I w → -9223372036854775808 ≤ d → d ≤ 9223372036854775807 → -9223372036854775808 ≤ e → e ≤ 9223372036854775807 → ¬ cmpE f d g e ≤ 0 → Calls Tryz.prog 79 #[.agg #[.int .i8 f, .int .i64 d], .agg #[.int .i8 g, .int .i64 e]] w fun x w' => x = .returned (.agg #[.int .i8 g, .int .i64 e]) ∧ Below w.heap.size w w'
 max_le : ∀ {f d g e : Int} (w : World), I w → -9223372036854775808 ≤ d → d ≤ 9223372036854775807 → -9223372036854775808 ≤ e → e ≤ 9223372036854775807 → cmpE f d g e ≤ 0 → Calls Tryz.prog 80 #[.agg #[.int .i8 f, .int .i64 d], .agg #[.int .i8 g, .int .i64 e]] w fun x w' => x = .returned (.agg #[.int .i8 g, .int .i64 e]) ∧ Below w.heap.size w w'
 max_gt : ∀ {f d g e : Int} (w : World), I w → -9223372036854775808 ≤ d → d ≤ 9223372036854775807 → -9223372036854775808 ≤ e → e ≤ 9223372036854775807 → ¬ cmpE f d g e ≤ 0 → Calls Tryz.prog 80 #[.agg #[.int .i8 f, .int .i64 d], .agg #[.int .i8 g, .int .i64 e]] w fun x w' => x = .returned (.agg #[.int .i8 f, .int .i64 d]) ∧ Below w.heap.size w w'
 text_in : ∀ {f d : Int} (w : World), I w → -9223372036854775808 ≤ d → d ≤ 9223372036854775807 → chkE f d = 0 → Calls Tryz.prog 98 #[.agg #[.int .i8 f, .int .i64 d]] w fun x w' => x = .returned (.tuple #[.string (bs (textE f d)), .int .i64 0]) ∧ Below w.heap.size w w'
 text_out : ∀ {f d c : Int} (w : World), I w → -9223372036854775808 ≤ d → d ≤ 9223372036854775807 → chkE f d = c → ¬ c = 0 → Calls Tryz.prog 98 #[.agg #[.int .i8 f, .int .i64 d]] w fun x w' => x = .returned (.tuple #[.string ⟨#[]⟩, .int .i64 c]) ∧ Below w.heap.size w w'
 parse : ∀ {l : List UInt8} {f d c : Int} (w : World), I w → l.length ≤ 60 → ParE l f d c → Calls Tryz.prog 101 #[.string (bs l)] w fun x w' => x = .returned (.tuple #[.agg #[.int .i8 f, .int .i64 d], .int .i64 c]) ∧ Below w.heap.size w w'
end Go.Proofs.YtndjcmclmhoigaaGreatDoor
namespace Go.Proofs.YtndjcmclmhoigaaGreatDoor
open Go.RowKit

theorem endCoreN : EndCoreN LaidEn where
 keep h hb := h.below hb
 check w hL _ _ hc := dChk_is hc w hL
 of w _ _ _ := dOf_is _ w
 cmp w _ _ _ _ _ hv := dCmp_is hv w
 next w hL d0 d1 h := dNext_is h d0 d1 w hL
 min_le {f d g e} w _ _ _ _ _ h := by
  rcases cmpE_one f d g e with h1 | h1 | h1
  ·exact dMin_lt h1 w
  ·obtain ⟨rfl, rfl⟩ := (cmpE_zero f d g e).1 h1
   exact dMin_ge h1 (by decide) w
  ·omega
 min_gt {f d g e} w _ _ _ _ _ h := dMin_ge rfl (by omega) w
 max_le {f d g e} w _ _ _ _ _ h := dMax_le rfl (by omega) w
 max_gt {f d g e} w _ _ _ _ _ h := by
  rcases cmpE_one f d g e with h1 | h1 | h1
  ·omega
  ·omega
  ·exact dMax_gt h1 w
 text_in w hL d0 d1 hc := dText_in d0 d1 hc w hL
 text_out w hL _ _ hc h0 := dText_out hc h0 w hL
 parse w hL hl h := dPar_is h (by omega) w hL
end Go.Proofs.YtndjcmclmhoigaaGreatDoor
namespace Go.Proofs.YtndjcmclmhoigaaGreatDoor
open Go.RowKit
set_option maxRecDepth 100000

set_option maxHeartbeats 4000000 in
theorem dRChk_is {r : Rn} {c : Int} (hr : r.In) (hc : chkR r = c) (w : World) (hL : LaidEn w) :
 Calls Tryz.prog 15 #[.agg #[.int .i8 r.f, .int .i64 r.d, .int .i8 r.g, .int .i64 r.e]] w fun x w' => x = .returned (.int .i64 c) ∧ Below w.heap.size w w' := by
 have HA := Kp.mk (rg_new r 26 (Below.refl w.heap.size w))
 have HB := Kp.mk (bl_of HA.out)
 obtain ⟨a, ha⟩ : ∃ a, chkE r.f r.d = a := ⟨_, rfl⟩
 obtain ⟨b, hb⟩ : ∃ b, chkE r.g r.e = b := ⟨_, rfl⟩
 obtain ⟨q, hq⟩ : ∃ q, cmpE r.f r.d r.g r.e = q := ⟨_, rfl⟩
 have r1 : Kp (∀ u, Below w.heap.size w u → Calls Tryz.prog 74 #[.agg #[.int .i8 r.f, .int .i64 r.d]] u fun e w' => e = .returned (.int .i64 a) ∧ Below u.heap.size u w') := Kp.mk (fun u hw => endCoreN.check u (hL.below hw) hr.d0 hr.d1 ha)
 have r2 : Kp (∀ u, Below w.heap.size w u → Calls Tryz.prog 74 #[.agg #[.int .i8 r.g, .int .i64 r.e]] u fun e w' => e = .returned (.int .i64 b) ∧ Below u.heap.size u w') := Kp.mk (fun u hw => endCoreN.check u (hL.below hw) hr.e0 hr.e1 hb)
 have r3 : Kp (∀ u, Below w.heap.size w u → Calls Tryz.prog 75 #[.agg #[.int .i8 r.f, .int .i64 r.d], .agg #[.int .i8 r.g, .int .i64 r.e]] u fun e w' => e = .returned (.int .i64 q) ∧ Below u.heap.size u w') := Kp.mk (fun u hw => endCoreN.cmp u (hL.below hw) hr.d0 hr.d1 hr.e0 hr.e1 hq)
 unfold chkR at hc
 rw [ha, hb, hq] at hc
 have ha0 : a = 0 → r.f = 0 ∨ (r.f = 1 ∨ r.f = -1) ∧ r.d = 0 := fun h => chkE_zero.1 (by rw [ha]; exact h)
 have hb0 : b = 0 → r.g = 0 ∨ (r.g = 1 ∨ r.g = -1) ∧ r.e = 0 := fun h => chkE_zero.1 (by rw [hb]; exact h)
 have hq0 : q = -1 ∨ q = 0 ∨ q = 1 := by rw [← hq]; exact cmpE_one _ _ _ _
 clear ha hb hq hr hL
 by_cases h1 : a = 0
 ·by_cases h2 : b = 0
  ·rw [if_pos ⟨h1, h2⟩] at hc
   have ha0 := ha0 h1
   have hb0 := hb0 h2
   subst h1 h2
   by_cases h3 : r.f = 1
   ·rw [if_pos (.inl h3)] at hc
    subst hc
    have t3 : 0 < r.f := by omega
    clear h3 ha0 hb0 hq0
    go_enter Tryz.func15, Tryz.ntmps15
    go_upto_region 1 with fail
    generalize (w.alloc (.cells #[.int .i8 r.f, .int .i64 r.d, .int .i8 r.g, .int .i64 r.e] 26)) = w0 at *
    have kHA0 := HA.out.c0
    have kHA1 := HA.out.c1
    have kHA2 := HA.out.c2
    have kHA3 := HA.out.c3
    go_wp2_with fail
    refine (r1.out _ HB.out.below).mono ?_
    rintro e u1 ⟨rfl, hbl⟩
    clear kHA0 kHA1 kHA2 kHA3
    have HB := Kp.mk (HB.out.step hbl)
    have HA := Kp.mk (HA.out.step hbl)
    clear hbl
    have kHA0 := HA.out.c0
    have kHA1 := HA.out.c1
    have kHA2 := HA.out.c2
    have kHA3 := HA.out.c3
    go_wp2_with fail
    refine (r2.out _ HB.out.below).mono ?_
    rintro e u2 ⟨rfl, hbl⟩
    clear kHA0 kHA1 kHA2 kHA3
    have HB := Kp.mk (HB.out.step hbl)
    have HA := Kp.mk (HA.out.step hbl)
    clear hbl
    have kHA0 := HA.out.c0
    have kHA1 := HA.out.c1
    have kHA2 := HA.out.c2
    have kHA3 := HA.out.c3
    go_wp2_with fail
    go_ret
    exact ⟨rfl, HB.out.below⟩
   ·have t3 : ¬ 0 < r.f := by omega
    by_cases h4 : r.g = -1
    ·rw [if_pos (.inr h4)] at hc
     subst hc
     have t4 : r.g < 0 := by omega
     clear h3 h4 ha0 hb0 hq0
     go_enter Tryz.func15, Tryz.ntmps15
     go_upto_region 1 with fail
     generalize (w.alloc (.cells #[.int .i8 r.f, .int .i64 r.d, .int .i8 r.g, .int .i64 r.e] 26)) = w0 at *
     have kHA0 := HA.out.c0
     have kHA1 := HA.out.c1
     have kHA2 := HA.out.c2
     have kHA3 := HA.out.c3
     go_wp2_with fail
     refine (r1.out _ HB.out.below).mono ?_
     rintro e u1 ⟨rfl, hbl⟩
     clear kHA0 kHA1 kHA2 kHA3
     have HB := Kp.mk (HB.out.step hbl)
     have HA := Kp.mk (HA.out.step hbl)
     clear hbl
     have kHA0 := HA.out.c0
     have kHA1 := HA.out.c1
     have kHA2 := HA.out.c2
     have kHA3 := HA.out.c3
     go_wp2_with fail
     refine (r2.out _ HB.out.below).mono ?_
     rintro e u2 ⟨rfl, hbl⟩
     clear kHA0 kHA1 kHA2 kHA3
     have HB := Kp.mk (HB.out.step hbl)
     have HA := Kp.mk (HA.out.step hbl)
     clear hbl
     have kHA0 := HA.out.c0
     have kHA1 := HA.out.c1
     have kHA2 := HA.out.c2
     have kHA3 := HA.out.c3
     go_wp2_with fail
     go_ret
     exact ⟨rfl, HB.out.below⟩
    ·have t4 : ¬ r.g < 0 := by omega
     rw [if_neg (by omega)] at hc
     clear h3 h4 ha0 hb0
     rcases hq0 with rfl | rfl | rfl
     ·obtain rfl : 0 = c := by rw [← hc]; decide
      clear hc
      go_enter Tryz.func15, Tryz.ntmps15
      go_upto_region 1 with fail
      generalize (w.alloc (.cells #[.int .i8 r.f, .int .i64 r.d, .int .i8 r.g, .int .i64 r.e] 26)) = w0 at *
      have kHA0 := HA.out.c0
      have kHA1 := HA.out.c1
      have kHA2 := HA.out.c2
      have kHA3 := HA.out.c3
      go_wp2_with fail
      refine (r1.out _ HB.out.below).mono ?_
      rintro e u1 ⟨rfl, hbl⟩
      clear kHA0 kHA1 kHA2 kHA3
      have HB := Kp.mk (HB.out.step hbl)
      have HA := Kp.mk (HA.out.step hbl)
      clear hbl
      have kHA0 := HA.out.c0
      have kHA1 := HA.out.c1
      have kHA2 := HA.out.c2
      have kHA3 := HA.out.c3
      go_wp2_with fail
      refine (r2.out _ HB.out.below).mono ?_
      rintro e u2 ⟨rfl, hbl⟩
      clear kHA0 kHA1 kHA2 kHA3
      have HB := Kp.mk (HB.out.step hbl)
      have HA := Kp.mk (HA.out.step hbl)
      clear hbl
      have kHA0 := HA.out.c0
      have kHA1 := HA.out.c1
      have kHA2 := HA.out.c2
      have kHA3 := HA.out.c3
      go_wp2_with fail
      refine (r3.out _ HB.out.below).mono ?_
      rintro e u3 ⟨rfl, hbl⟩
      clear kHA0 kHA1 kHA2 kHA3
      have HB := Kp.mk (HB.out.step hbl)
      have HA := Kp.mk (HA.out.step hbl)
      clear hbl
      have kHA0 := HA.out.c0
      have kHA1 := HA.out.c1
      have kHA2 := HA.out.c2
      have kHA3 := HA.out.c3
      go_wp2_with fail
      go_ret
      exact ⟨rfl, HB.out.below⟩
     ·obtain rfl : 0 = c := by rw [← hc]; decide
      clear hc
      go_enter Tryz.func15, Tryz.ntmps15
      go_upto_region 1 with fail
      generalize (w.alloc (.cells #[.int .i8 r.f, .int .i64 r.d, .int .i8 r.g, .int .i64 r.e] 26)) = w0 at *
      have kHA0 := HA.out.c0
      have kHA1 := HA.out.c1
      have kHA2 := HA.out.c2
      have kHA3 := HA.out.c3
      go_wp2_with fail
      refine (r1.out _ HB.out.below).mono ?_
      rintro e u1 ⟨rfl, hbl⟩
      clear kHA0 kHA1 kHA2 kHA3
      have HB := Kp.mk (HB.out.step hbl)
      have HA := Kp.mk (HA.out.step hbl)
      clear hbl
      have kHA0 := HA.out.c0
      have kHA1 := HA.out.c1
      have kHA2 := HA.out.c2
      have kHA3 := HA.out.c3
      go_wp2_with fail
      refine (r2.out _ HB.out.below).mono ?_
      rintro e u2 ⟨rfl, hbl⟩
      clear kHA0 kHA1 kHA2 kHA3
      have HB := Kp.mk (HB.out.step hbl)
      have HA := Kp.mk (HA.out.step hbl)
      clear hbl
      have kHA0 := HA.out.c0
      have kHA1 := HA.out.c1
      have kHA2 := HA.out.c2
      have kHA3 := HA.out.c3
      go_wp2_with fail
      refine (r3.out _ HB.out.below).mono ?_
      rintro e u3 ⟨rfl, hbl⟩
      clear kHA0 kHA1 kHA2 kHA3
      have HB := Kp.mk (HB.out.step hbl)
      have HA := Kp.mk (HA.out.step hbl)
      clear hbl
      have kHA0 := HA.out.c0
      have kHA1 := HA.out.c1
      have kHA2 := HA.out.c2
      have kHA3 := HA.out.c3
      go_wp2_with fail
      go_ret
      exact ⟨rfl, HB.out.below⟩
     ·obtain rfl : 12 = c := by rw [← hc]; decide
      clear hc
      go_enter Tryz.func15, Tryz.ntmps15
      go_upto_region 1 with fail
      generalize (w.alloc (.cells #[.int .i8 r.f, .int .i64 r.d, .int .i8 r.g, .int .i64 r.e] 26)) = w0 at *
      have kHA0 := HA.out.c0
      have kHA1 := HA.out.c1
      have kHA2 := HA.out.c2
      have kHA3 := HA.out.c3
      go_wp2_with fail
      refine (r1.out _ HB.out.below).mono ?_
      rintro e u1 ⟨rfl, hbl⟩
      clear kHA0 kHA1 kHA2 kHA3
      have HB := Kp.mk (HB.out.step hbl)
      have HA := Kp.mk (HA.out.step hbl)
      clear hbl
      have kHA0 := HA.out.c0
      have kHA1 := HA.out.c1
      have kHA2 := HA.out.c2
      have kHA3 := HA.out.c3
      go_wp2_with fail
      refine (r2.out _ HB.out.below).mono ?_
      rintro e u2 ⟨rfl, hbl⟩
      clear kHA0 kHA1 kHA2 kHA3
      have HB := Kp.mk (HB.out.step hbl)
      have HA := Kp.mk (HA.out.step hbl)
      clear hbl
      have kHA0 := HA.out.c0
      have kHA1 := HA.out.c1
      have kHA2 := HA.out.c2
      have kHA3 := HA.out.c3
      go_wp2_with fail
      refine (r3.out _ HB.out.below).mono ?_
      rintro e u3 ⟨rfl, hbl⟩
      clear kHA0 kHA1 kHA2 kHA3
      have HB := Kp.mk (HB.out.step hbl)
      have HA := Kp.mk (HA.out.step hbl)
      clear hbl
      have kHA0 := HA.out.c0
      have kHA1 := HA.out.c1
      have kHA2 := HA.out.c2
      have kHA3 := HA.out.c3
      go_wp2_with fail
      go_ret
      exact ⟨rfl, HB.out.below⟩
  ·rw [if_neg (fun h => h2 h.2)] at hc
   subst hc h1
   have t2 : (b != 0) = true := by rw [bne_iff_ne]; exact h2
   clear h2 ha0 hb0 hq0
   go_enter Tryz.func15, Tryz.ntmps15
   go_upto_region 1 with fail
   generalize (w.alloc (.cells #[.int .i8 r.f, .int .i64 r.d, .int .i8 r.g, .int .i64 r.e] 26)) = w0 at *
   have kHA0 := HA.out.c0
   have kHA1 := HA.out.c1
   have kHA2 := HA.out.c2
   have kHA3 := HA.out.c3
   go_wp2_with fail
   refine (r1.out _ HB.out.below).mono ?_
   rintro e u1 ⟨rfl, hbl⟩
   clear kHA0 kHA1 kHA2 kHA3
   have HB := Kp.mk (HB.out.step hbl)
   have HA := Kp.mk (HA.out.step hbl)
   clear hbl
   have kHA0 := HA.out.c0
   have kHA1 := HA.out.c1
   have kHA2 := HA.out.c2
   have kHA3 := HA.out.c3
   go_wp2_with fail
   refine (r2.out _ HB.out.below).mono ?_
   rintro e u2 ⟨rfl, hbl⟩
   clear kHA0 kHA1 kHA2 kHA3
   have HB := Kp.mk (HB.out.step hbl)
   have HA := Kp.mk (HA.out.step hbl)
   clear hbl
   have kHA0 := HA.out.c0
   have kHA1 := HA.out.c1
   have kHA2 := HA.out.c2
   have kHA3 := HA.out.c3
   go_wp2_with fail
   go_ret
   exact ⟨rfl, HB.out.below⟩
 ·rw [if_neg (fun h => h1 h.1)] at hc
  subst hc
  have t1 : (a != 0) = true := by rw [bne_iff_ne]; exact h1
  clear h1 ha0 hb0 hq0
  go_enter Tryz.func15, Tryz.ntmps15
  go_upto_region 1 with fail
  generalize (w.alloc (.cells #[.int .i8 r.f, .int .i64 r.d, .int .i8 r.g, .int .i64 r.e] 26)) = w0 at *
  have kHA0 := HA.out.c0
  have kHA1 := HA.out.c1
  have kHA2 := HA.out.c2
  have kHA3 := HA.out.c3
  go_wp2_with fail
  refine (r1.out _ HB.out.below).mono ?_
  rintro e u1 ⟨rfl, hbl⟩
  clear kHA0 kHA1 kHA2 kHA3
  have HB := Kp.mk (HB.out.step hbl)
  have HA := Kp.mk (HA.out.step hbl)
  clear hbl
  have kHA0 := HA.out.c0
  have kHA1 := HA.out.c1
  have kHA2 := HA.out.c2
  have kHA3 := HA.out.c3
  go_wp2_with fail
  go_ret
  exact ⟨rfl, HB.out.below⟩
set_option maxHeartbeats 4000000 in
theorem dAre_is {a b : Rn} {v : Bool} (ha : a.In) (hb : b.In) (hv : decide (chkR a = 0 ∧ chkR b = 0) = v) (w : World) (hL : LaidEn w) :
 Calls Tryz.prog 81 #[.agg #[.int .i8 a.f, .int .i64 a.d, .int .i8 a.g, .int .i64 a.e], .agg #[.int .i8 b.f, .int .i64 b.d, .int .i8 b.g, .int .i64 b.e]] w fun x w' => x = .returned (.bool v) ∧ Below w.heap.size w w' := by
 have HA := Kp.mk (rg_two w a b).1
 have HC := Kp.mk (rg_two w a b).2
 have HB := Kp.mk (bl_of HA.out)
 obtain ⟨c, hc⟩ : ∃ c, chkR a = c := ⟨_, rfl⟩
 obtain ⟨d, hd⟩ : ∃ d, chkR b = d := ⟨_, rfl⟩
 have r1 : Kp (∀ u, Below w.heap.size w u → Calls Tryz.prog 15 #[.agg #[.int .i8 a.f, .int .i64 a.d, .int .i8 a.g, .int .i64 a.e]] u fun e w' => e = .returned (.int .i64 c) ∧ Below u.heap.size u w') := Kp.mk (fun u hw => dRChk_is ha hc u (hL.below hw))
 have r2 : Kp (∀ u, Below w.heap.size w u → Calls Tryz.prog 15 #[.agg #[.int .i8 b.f, .int .i64 b.d, .int .i8 b.g, .int .i64 b.e]] u fun e w' => e = .returned (.int .i64 d) ∧ Below u.heap.size u w') := Kp.mk (fun u hw => dRChk_is hb hd u (hL.below hw))
 rw [hc, hd] at hv
 clear hc hd ha hb hL
 by_cases h1 : c = 0
 ·subst h1
  by_cases h2 : d = 0
  ·subst h2
   obtain rfl : true = v := by rw [← hv]; decide
   clear hv
   go_enter Tryz.func81, Tryz.ntmps81
   go_upto_region 1 with fail
   generalize ((w.alloc (.cells #[.int .i8 a.f, .int .i64 a.d, .int .i8 a.g, .int .i64 a.e] 26)).alloc (.cells #[.int .i8 b.f, .int .i64 b.d, .int .i8 b.g, .int .i64 b.e] 26)) = w0 at *
   have kHA0 := HA.out.c0
   have kHA1 := HA.out.c1
   have kHA2 := HA.out.c2
   have kHA3 := HA.out.c3
   have kHC0 := HC.out.c0
   have kHC1 := HC.out.c1
   have kHC2 := HC.out.c2
   have kHC3 := HC.out.c3
   go_wp2_with fail
   refine (r1.out _ HB.out.below).mono ?_
   rintro e u1 ⟨rfl, hbl⟩
   clear kHA0 kHA1 kHA2 kHA3 kHC0 kHC1 kHC2 kHC3
   have HB := Kp.mk (HB.out.step hbl)
   have HA := Kp.mk (HA.out.step hbl)
   have HC := Kp.mk (HC.out.step hbl)
   clear hbl
   have kHA0 := HA.out.c0
   have kHA1 := HA.out.c1
   have kHA2 := HA.out.c2
   have kHA3 := HA.out.c3
   have kHC0 := HC.out.c0
   have kHC1 := HC.out.c1
   have kHC2 := HC.out.c2
   have kHC3 := HC.out.c3
   go_wp2_with fail
   refine (r2.out _ HB.out.below).mono ?_
   rintro e u2 ⟨rfl, hbl⟩
   clear kHA0 kHA1 kHA2 kHA3 kHC0 kHC1 kHC2 kHC3
   have HB := Kp.mk (HB.out.step hbl)
   have HA := Kp.mk (HA.out.step hbl)
   have HC := Kp.mk (HC.out.step hbl)
   clear hbl
   have kHA0 := HA.out.c0
   have kHA1 := HA.out.c1
   have kHA2 := HA.out.c2
   have kHA3 := HA.out.c3
   have kHC0 := HC.out.c0
   have kHC1 := HC.out.c1
   have kHC2 := HC.out.c2
   have kHC3 := HC.out.c3
   go_wp2_with fail
   go_ret
   exact ⟨rfl, HB.out.below⟩
  ·obtain rfl : false = v := by rw [← hv]; symm; rw [decide_eq_false_iff_not]; omega
   have t2 : (d == 0) = false := by rw [beq_eq_false_iff_ne]; exact h2
   clear hv h2
   go_enter Tryz.func81, Tryz.ntmps81
   go_upto_region 1 with fail
   generalize ((w.alloc (.cells #[.int .i8 a.f, .int .i64 a.d, .int .i8 a.g, .int .i64 a.e] 26)).alloc (.cells #[.int .i8 b.f, .int .i64 b.d, .int .i8 b.g, .int .i64 b.e] 26)) = w0 at *
   have kHA0 := HA.out.c0
   have kHA1 := HA.out.c1
   have kHA2 := HA.out.c2
   have kHA3 := HA.out.c3
   have kHC0 := HC.out.c0
   have kHC1 := HC.out.c1
   have kHC2 := HC.out.c2
   have kHC3 := HC.out.c3
   go_wp2_with fail
   refine (r1.out _ HB.out.below).mono ?_
   rintro e u1 ⟨rfl, hbl⟩
   clear kHA0 kHA1 kHA2 kHA3 kHC0 kHC1 kHC2 kHC3
   have HB := Kp.mk (HB.out.step hbl)
   have HA := Kp.mk (HA.out.step hbl)
   have HC := Kp.mk (HC.out.step hbl)
   clear hbl
   have kHA0 := HA.out.c0
   have kHA1 := HA.out.c1
   have kHA2 := HA.out.c2
   have kHA3 := HA.out.c3
   have kHC0 := HC.out.c0
   have kHC1 := HC.out.c1
   have kHC2 := HC.out.c2
   have kHC3 := HC.out.c3
   go_wp2_with fail
   refine (r2.out _ HB.out.below).mono ?_
   rintro e u2 ⟨rfl, hbl⟩
   clear kHA0 kHA1 kHA2 kHA3 kHC0 kHC1 kHC2 kHC3
   have HB := Kp.mk (HB.out.step hbl)
   have HA := Kp.mk (HA.out.step hbl)
   have HC := Kp.mk (HC.out.step hbl)
   clear hbl
   have kHA0 := HA.out.c0
   have kHA1 := HA.out.c1
   have kHA2 := HA.out.c2
   have kHA3 := HA.out.c3
   have kHC0 := HC.out.c0
   have kHC1 := HC.out.c1
   have kHC2 := HC.out.c2
   have kHC3 := HC.out.c3
   go_wp2_with fail
   go_ret
   exact ⟨rfl, HB.out.below⟩
 ·obtain rfl : false = v := by rw [← hv]; symm; rw [decide_eq_false_iff_not]; omega
  have t1 : (c == 0) = false := by rw [beq_eq_false_iff_ne]; exact h1
  clear hv h1
  go_enter Tryz.func81, Tryz.ntmps81
  go_upto_region 1 with fail
  generalize ((w.alloc (.cells #[.int .i8 a.f, .int .i64 a.d, .int .i8 a.g, .int .i64 a.e] 26)).alloc (.cells #[.int .i8 b.f, .int .i64 b.d, .int .i8 b.g, .int .i64 b.e] 26)) = w0 at *
  have kHA0 := HA.out.c0
  have kHA1 := HA.out.c1
  have kHA2 := HA.out.c2
  have kHA3 := HA.out.c3
  have kHC0 := HC.out.c0
  have kHC1 := HC.out.c1
  have kHC2 := HC.out.c2
  have kHC3 := HC.out.c3
  go_wp2_with fail
  refine (r1.out _ HB.out.below).mono ?_
  rintro e u1 ⟨rfl, hbl⟩
  clear kHA0 kHA1 kHA2 kHA3 kHC0 kHC1 kHC2 kHC3
  have HB := Kp.mk (HB.out.step hbl)
  have HA := Kp.mk (HA.out.step hbl)
  have HC := Kp.mk (HC.out.step hbl)
  clear hbl
  have kHA0 := HA.out.c0
  have kHA1 := HA.out.c1
  have kHA2 := HA.out.c2
  have kHA3 := HA.out.c3
  have kHC0 := HC.out.c0
  have kHC1 := HC.out.c1
  have kHC2 := HC.out.c2
  have kHC3 := HC.out.c3
  go_wp2_with fail
  go_ret
  exact ⟨rfl, HB.out.below⟩
set_option maxHeartbeats 4000000 in
theorem dReach_is {a b : Rn} {v : Bool} (ha : a.Ok) (hb : b.Ok) (hv : decide (b.lo ≤ a.hi + 1) = v) (w : World) (hL : LaidEn w) :
 Calls Tryz.prog 82 #[.agg #[.int .i8 a.f, .int .i64 a.d, .int .i8 a.g, .int .i64 a.e], .agg #[.int .i8 b.f, .int .i64 b.d, .int .i8 b.g, .int .i64 b.e]] w fun x w' => x = .returned (.bool v) ∧ Below w.heap.size w w' := by
 have HA := Kp.mk (rg_two w a b).1
 have HC := Kp.mk (rg_two w a b).2
 have HB := Kp.mk (bl_of HA.out)
 have pa := ha.pos.ph
 have pb := hb.pos.pl
 have d0 := hb.d0
 have d1 := hb.d1
 have e0 := ha.e0
 have e1 := ha.e1
 obtain ⟨q, hq⟩ : ∃ q, cmpE b.f b.d a.g a.e = q := ⟨_, rfl⟩
 have hle := cmpE_le b.f b.d a.g a.e
 rw [hq] at hle
 have r1 : Kp (∀ u, Below w.heap.size w u → Calls Tryz.prog 75 #[.agg #[.int .i8 b.f, .int .i64 b.d], .agg #[.int .i8 a.g, .int .i64 a.e]] u fun e w' => e = .returned (.int .i64 q) ∧ Below u.heap.size u w') := Kp.mk (fun u hw => endCoreN.cmp u (hL.below hw) d0 d1 e0 e1 hq)
 clear hq
 by_cases h1 : q ≤ 0
 ·obtain rfl : true = v := by rw [← hv]; symm; rw [decide_eq_true_iff]; omega
  clear hv hle pa pb d0 d1 e0 e1 ha hb hL
  go_enter Tryz.func82, Tryz.ntmps82
  go_upto_region 1 with fail
  generalize ((w.alloc (.cells #[.int .i8 a.f, .int .i64 a.d, .int .i8 a.g, .int .i64 a.e] 26)).alloc (.cells #[.int .i8 b.f, .int .i64 b.d, .int .i8 b.g, .int .i64 b.e] 26)) = w0 at *
  have kHA0 := HA.out.c0
  have kHA1 := HA.out.c1
  have kHA2 := HA.out.c2
  have kHA3 := HA.out.c3
  have kHC0 := HC.out.c0
  have kHC1 := HC.out.c1
  have kHC2 := HC.out.c2
  have kHC3 := HC.out.c3
  go_wp2_with fail
  refine (r1.out _ HB.out.below).mono ?_
  rintro e u1 ⟨rfl, hbl⟩
  clear kHA0 kHA1 kHA2 kHA3 kHC0 kHC1 kHC2 kHC3
  have HB := Kp.mk (HB.out.step hbl)
  have HA := Kp.mk (HA.out.step hbl)
  have HC := Kp.mk (HC.out.step hbl)
  clear hbl
  have kHA0 := HA.out.c0
  have kHA1 := HA.out.c1
  have kHA2 := HA.out.c2
  have kHA3 := HA.out.c3
  have kHC0 := HC.out.c0
  have kHC1 := HC.out.c1
  have kHC2 := HC.out.c2
  have kHC3 := HC.out.c3
  go_wp2_with fail
  go_ret
  exact ⟨rfl, HB.out.below⟩
 ·have hg : a.g = 0 := by omega
  have hf : b.f = 0 := by omega
  have hlt : a.e < b.d := by omega
  obtain ⟨n, hn⟩ : ∃ n, a.e + 1 = n := ⟨_, rfl⟩
  have hs : StepE true a.g a.e 0 n 0 := ⟨fun h => absurd (by rw [chkE_zero]; exact .inl hg) h, fun _ h => absurd hg h, fun _ h => by simp at h; omega, fun _ _ => ⟨rfl, by simp; omega, rfl⟩⟩
  have r2 : Kp (∀ u, Below w.heap.size w u → Calls Tryz.prog 129 #[.agg #[.int .i8 a.g, .int .i64 a.e]] u fun e w' => e = .returned (.tuple #[.agg #[.int .i8 0, .int .i64 n], .int .i64 0]) ∧ Below u.heap.size u w') := Kp.mk (fun u hw => endCoreN.next u (hL.below hw) e0 e1 hs)
  have t0 : (0 == b.f) = true := by rw [beq_iff_eq]; exact hf.symm
  by_cases h2 : n = b.d
  ·obtain rfl : true = v := by rw [← hv]; symm; rw [decide_eq_true_iff]; omega
   have t2 : (n == b.d) = true := by rw [beq_iff_eq]; exact h2
   clear hv hle pa pb d0 d1 e0 e1 ha hb hL hg hf hlt hs hn h2
   go_enter Tryz.func82, Tryz.ntmps82
   go_upto_region 1 with fail
   generalize ((w.alloc (.cells #[.int .i8 a.f, .int .i64 a.d, .int .i8 a.g, .int .i64 a.e] 26)).alloc (.cells #[.int .i8 b.f, .int .i64 b.d, .int .i8 b.g, .int .i64 b.e] 26)) = w0 at *
   have kHA0 := HA.out.c0
   have kHA1 := HA.out.c1
   have kHA2 := HA.out.c2
   have kHA3 := HA.out.c3
   have kHC0 := HC.out.c0
   have kHC1 := HC.out.c1
   have kHC2 := HC.out.c2
   have kHC3 := HC.out.c3
   go_wp2_with fail
   refine (r1.out _ HB.out.below).mono ?_
   rintro e u1 ⟨rfl, hbl⟩
   clear kHA0 kHA1 kHA2 kHA3 kHC0 kHC1 kHC2 kHC3
   have HB := Kp.mk (HB.out.step hbl)
   have HA := Kp.mk (HA.out.step hbl)
   have HC := Kp.mk (HC.out.step hbl)
   clear hbl
   have kHA0 := HA.out.c0
   have kHA1 := HA.out.c1
   have kHA2 := HA.out.c2
   have kHA3 := HA.out.c3
   have kHC0 := HC.out.c0
   have kHC1 := HC.out.c1
   have kHC2 := HC.out.c2
   have kHC3 := HC.out.c3
   go_wp2_with fail
   refine (r2.out _ HB.out.below).mono ?_
   rintro e u2 ⟨rfl, hbl⟩
   clear kHA0 kHA1 kHA2 kHA3 kHC0 kHC1 kHC2 kHC3
   have HB := Kp.mk (HB.out.step hbl)
   have HA := Kp.mk (HA.out.step hbl)
   have HC := Kp.mk (HC.out.step hbl)
   clear hbl
   have kHA0 := HA.out.c0
   have kHA1 := HA.out.c1
   have kHA2 := HA.out.c2
   have kHA3 := HA.out.c3
   have kHC0 := HC.out.c0
   have kHC1 := HC.out.c1
   have kHC2 := HC.out.c2
   have kHC3 := HC.out.c3
   go_upto_region 4 with fail
   clear kHA0 kHA1 kHA2 kHA3 kHC0 kHC1 kHC2 kHC3
   have HX := Kp.mk (eb_new 0 n 24 HB.out.below)
   have hbl := (Below.refl u2.heap.size u2).alloc (Nat.le_refl _) (.cells #[.int .i8 0, .int .i64 n] 24)
   have HB := Kp.mk (HB.out.step hbl)
   have HA := Kp.mk (HA.out.step hbl)
   have HC := Kp.mk (HC.out.step hbl)
   clear hbl
   generalize u2.alloc (.cells #[.int .i8 0, .int .i64 n] 24) = u3 at *
   generalize u2.heap.size = gx at *
   have kHA0 := HA.out.c0
   have kHA1 := HA.out.c1
   have kHA2 := HA.out.c2
   have kHA3 := HA.out.c3
   have kHC0 := HC.out.c0
   have kHC1 := HC.out.c1
   have kHC2 := HC.out.c2
   have kHC3 := HC.out.c3
   have kHX0 := HX.out.c0
   have kHX1 := HX.out.c1
   go_wp2_with fail
   go_ret
   exact ⟨rfl, HB.out.below⟩
  ·obtain rfl : false = v := by rw [← hv]; symm; rw [decide_eq_false_iff_not]; omega
   have t2 : (n == b.d) = false := by rw [beq_eq_false_iff_ne]; exact h2
   clear hv hle pa pb d0 d1 e0 e1 ha hb hL hg hf hlt hs hn h2
   go_enter Tryz.func82, Tryz.ntmps82
   go_upto_region 1 with fail
   generalize ((w.alloc (.cells #[.int .i8 a.f, .int .i64 a.d, .int .i8 a.g, .int .i64 a.e] 26)).alloc (.cells #[.int .i8 b.f, .int .i64 b.d, .int .i8 b.g, .int .i64 b.e] 26)) = w0 at *
   have kHA0 := HA.out.c0
   have kHA1 := HA.out.c1
   have kHA2 := HA.out.c2
   have kHA3 := HA.out.c3
   have kHC0 := HC.out.c0
   have kHC1 := HC.out.c1
   have kHC2 := HC.out.c2
   have kHC3 := HC.out.c3
   go_wp2_with fail
   refine (r1.out _ HB.out.below).mono ?_
   rintro e u1 ⟨rfl, hbl⟩
   clear kHA0 kHA1 kHA2 kHA3 kHC0 kHC1 kHC2 kHC3
   have HB := Kp.mk (HB.out.step hbl)
   have HA := Kp.mk (HA.out.step hbl)
   have HC := Kp.mk (HC.out.step hbl)
   clear hbl
   have kHA0 := HA.out.c0
   have kHA1 := HA.out.c1
   have kHA2 := HA.out.c2
   have kHA3 := HA.out.c3
   have kHC0 := HC.out.c0
   have kHC1 := HC.out.c1
   have kHC2 := HC.out.c2
   have kHC3 := HC.out.c3
   go_wp2_with fail
   refine (r2.out _ HB.out.below).mono ?_
   rintro e u2 ⟨rfl, hbl⟩
   clear kHA0 kHA1 kHA2 kHA3 kHC0 kHC1 kHC2 kHC3
   have HB := Kp.mk (HB.out.step hbl)
   have HA := Kp.mk (HA.out.step hbl)
   have HC := Kp.mk (HC.out.step hbl)
   clear hbl
   have kHA0 := HA.out.c0
   have kHA1 := HA.out.c1
   have kHA2 := HA.out.c2
   have kHA3 := HA.out.c3
   have kHC0 := HC.out.c0
   have kHC1 := HC.out.c1
   have kHC2 := HC.out.c2
   have kHC3 := HC.out.c3
   go_upto_region 4 with fail
   clear kHA0 kHA1 kHA2 kHA3 kHC0 kHC1 kHC2 kHC3
   have HX := Kp.mk (eb_new 0 n 24 HB.out.below)
   have hbl := (Below.refl u2.heap.size u2).alloc (Nat.le_refl _) (.cells #[.int .i8 0, .int .i64 n] 24)
   have HB := Kp.mk (HB.out.step hbl)
   have HA := Kp.mk (HA.out.step hbl)
   have HC := Kp.mk (HC.out.step hbl)
   clear hbl
   generalize u2.alloc (.cells #[.int .i8 0, .int .i64 n] 24) = u3 at *
   generalize u2.heap.size = gx at *
   have kHA0 := HA.out.c0
   have kHA1 := HA.out.c1
   have kHA2 := HA.out.c2
   have kHA3 := HA.out.c3
   have kHC0 := HC.out.c0
   have kHC1 := HC.out.c1
   have kHC2 := HC.out.c2
   have kHC3 := HC.out.c3
   have kHX0 := HX.out.c0
   have kHX1 := HX.out.c1
   go_wp2_with fail
   go_ret
   exact ⟨rfl, HB.out.below⟩
set_option maxHeartbeats 4000000 in
theorem dTouch_is {a b : Rn} {v : Bool} (ha : a.In) (hb : b.In) (hv : touchN a b = v) (w : World) (hL : LaidEn w) :
 Calls Tryz.prog 22 #[.agg #[.int .i8 a.f, .int .i64 a.d, .int .i8 a.g, .int .i64 a.e], .agg #[.int .i8 b.f, .int .i64 b.d, .int .i8 b.g, .int .i64 b.e]] w fun x w' => x = .returned (.bool v) ∧ Below w.heap.size w w' := by
 have HA := Kp.mk (rg_two w a b).1
 have HC := Kp.mk (rg_two w a b).2
 have HB := Kp.mk (bl_of HA.out)
 by_cases h0 : chkR a = 0 ∧ chkR b = 0
 ·have hv' : decide (a.lo ≤ b.hi + 1 ∧ b.lo ≤ a.hi + 1) = v := by rw [← hv]; unfold touchN; rw [decide_eq_decide]; omega
  have hA := (chkR_zero ha).1 h0.1
  have hC := (chkR_zero hb).1 h0.2
  have r1 : Kp (∀ u, Below w.heap.size w u → Calls Tryz.prog 81 #[.agg #[.int .i8 a.f, .int .i64 a.d, .int .i8 a.g, .int .i64 a.e], .agg #[.int .i8 b.f, .int .i64 b.d, .int .i8 b.g, .int .i64 b.e]] u fun e w' => e = .returned (.bool true) ∧ Below u.heap.size u w') := Kp.mk (fun u hw => dAre_is ha hb (decide_eq_true h0) u (hL.below hw))
  obtain ⟨x, hx⟩ : ∃ x, decide (b.lo ≤ a.hi + 1) = x := ⟨_, rfl⟩
  obtain ⟨y, hy⟩ : ∃ y, decide (a.lo ≤ b.hi + 1) = y := ⟨_, rfl⟩
  have r2 : Kp (∀ u, Below w.heap.size w u → Calls Tryz.prog 82 #[.agg #[.int .i8 a.f, .int .i64 a.d, .int .i8 a.g, .int .i64 a.e], .agg #[.int .i8 b.f, .int .i64 b.d, .int .i8 b.g, .int .i64 b.e]] u fun e w' => e = .returned (.bool x) ∧ Below u.heap.size u w') := Kp.mk (fun u hw => dReach_is hA hC hx u (hL.below hw))
  have r3 : Kp (∀ u, Below w.heap.size w u → Calls Tryz.prog 82 #[.agg #[.int .i8 b.f, .int .i64 b.d, .int .i8 b.g, .int .i64 b.e], .agg #[.int .i8 a.f, .int .i64 a.d, .int .i8 a.g, .int .i64 a.e]] u fun e w' => e = .returned (.bool y) ∧ Below u.heap.size u w') := Kp.mk (fun u hw => dReach_is hC hA hy u (hL.below hw))
  clear hA hC ha hb hL h0 hv
  cases x with
  | true =>
   obtain rfl : y = v := by rw [← hy, ← hv', decide_eq_decide]; have := of_decide_eq_true hx; omega
   clear hx hy hv'
   go_enter Tryz.func22, Tryz.ntmps22
   go_upto_region 1 with fail
   generalize ((w.alloc (.cells #[.int .i8 a.f, .int .i64 a.d, .int .i8 a.g, .int .i64 a.e] 26)).alloc (.cells #[.int .i8 b.f, .int .i64 b.d, .int .i8 b.g, .int .i64 b.e] 26)) = w0 at *
   have kHA0 := HA.out.c0
   have kHA1 := HA.out.c1
   have kHA2 := HA.out.c2
   have kHA3 := HA.out.c3
   have kHC0 := HC.out.c0
   have kHC1 := HC.out.c1
   have kHC2 := HC.out.c2
   have kHC3 := HC.out.c3
   go_wp2_with fail
   refine (r1.out _ HB.out.below).mono ?_
   rintro e u1 ⟨rfl, hbl⟩
   clear kHA0 kHA1 kHA2 kHA3 kHC0 kHC1 kHC2 kHC3
   have HB := Kp.mk (HB.out.step hbl)
   have HA := Kp.mk (HA.out.step hbl)
   have HC := Kp.mk (HC.out.step hbl)
   clear hbl
   have kHA0 := HA.out.c0
   have kHA1 := HA.out.c1
   have kHA2 := HA.out.c2
   have kHA3 := HA.out.c3
   have kHC0 := HC.out.c0
   have kHC1 := HC.out.c1
   have kHC2 := HC.out.c2
   have kHC3 := HC.out.c3
   go_wp2_with fail
   refine (r2.out _ HB.out.below).mono ?_
   rintro e u2 ⟨rfl, hbl⟩
   clear kHA0 kHA1 kHA2 kHA3 kHC0 kHC1 kHC2 kHC3
   have HB := Kp.mk (HB.out.step hbl)
   have HA := Kp.mk (HA.out.step hbl)
   have HC := Kp.mk (HC.out.step hbl)
   clear hbl
   have kHA0 := HA.out.c0
   have kHA1 := HA.out.c1
   have kHA2 := HA.out.c2
   have kHA3 := HA.out.c3
   have kHC0 := HC.out.c0
   have kHC1 := HC.out.c1
   have kHC2 := HC.out.c2
   have kHC3 := HC.out.c3
   go_wp2_with fail
   refine (r3.out _ HB.out.below).mono ?_
   rintro e u3 ⟨rfl, hbl⟩
   clear kHA0 kHA1 kHA2 kHA3 kHC0 kHC1 kHC2 kHC3
   have HB := Kp.mk (HB.out.step hbl)
   have HA := Kp.mk (HA.out.step hbl)
   have HC := Kp.mk (HC.out.step hbl)
   clear hbl
   have kHA0 := HA.out.c0
   have kHA1 := HA.out.c1
   have kHA2 := HA.out.c2
   have kHA3 := HA.out.c3
   have kHC0 := HC.out.c0
   have kHC1 := HC.out.c1
   have kHC2 := HC.out.c2
   have kHC3 := HC.out.c3
   go_wp2_with fail
   go_ret
   exact ⟨rfl, HB.out.below⟩
  | false =>
   obtain rfl : false = v := by rw [← hv']; symm; rw [decide_eq_false_iff_not]; have := of_decide_eq_false hx; omega
   clear hx hy hv'
   go_enter Tryz.func22, Tryz.ntmps22
   go_upto_region 1 with fail
   generalize ((w.alloc (.cells #[.int .i8 a.f, .int .i64 a.d, .int .i8 a.g, .int .i64 a.e] 26)).alloc (.cells #[.int .i8 b.f, .int .i64 b.d, .int .i8 b.g, .int .i64 b.e] 26)) = w0 at *
   have kHA0 := HA.out.c0
   have kHA1 := HA.out.c1
   have kHA2 := HA.out.c2
   have kHA3 := HA.out.c3
   have kHC0 := HC.out.c0
   have kHC1 := HC.out.c1
   have kHC2 := HC.out.c2
   have kHC3 := HC.out.c3
   go_wp2_with fail
   refine (r1.out _ HB.out.below).mono ?_
   rintro e u1 ⟨rfl, hbl⟩
   clear kHA0 kHA1 kHA2 kHA3 kHC0 kHC1 kHC2 kHC3
   have HB := Kp.mk (HB.out.step hbl)
   have HA := Kp.mk (HA.out.step hbl)
   have HC := Kp.mk (HC.out.step hbl)
   clear hbl
   have kHA0 := HA.out.c0
   have kHA1 := HA.out.c1
   have kHA2 := HA.out.c2
   have kHA3 := HA.out.c3
   have kHC0 := HC.out.c0
   have kHC1 := HC.out.c1
   have kHC2 := HC.out.c2
   have kHC3 := HC.out.c3
   go_wp2_with fail
   refine (r2.out _ HB.out.below).mono ?_
   rintro e u2 ⟨rfl, hbl⟩
   clear kHA0 kHA1 kHA2 kHA3 kHC0 kHC1 kHC2 kHC3
   have HB := Kp.mk (HB.out.step hbl)
   have HA := Kp.mk (HA.out.step hbl)
   have HC := Kp.mk (HC.out.step hbl)
   clear hbl
   have kHA0 := HA.out.c0
   have kHA1 := HA.out.c1
   have kHA2 := HA.out.c2
   have kHA3 := HA.out.c3
   have kHC0 := HC.out.c0
   have kHC1 := HC.out.c1
   have kHC2 := HC.out.c2
   have kHC3 := HC.out.c3
   go_wp2_with fail
   go_ret
   exact ⟨rfl, HB.out.below⟩
 ·obtain rfl : false = v := by rw [← hv]; unfold touchN; symm; rw [decide_eq_false_iff_not]; exact fun h => h0 ⟨h.1, h.2.1⟩
  have r1 : Kp (∀ u, Below w.heap.size w u → Calls Tryz.prog 81 #[.agg #[.int .i8 a.f, .int .i64 a.d, .int .i8 a.g, .int .i64 a.e], .agg #[.int .i8 b.f, .int .i64 b.d, .int .i8 b.g, .int .i64 b.e]] u fun e w' => e = .returned (.bool false) ∧ Below u.heap.size u w') := Kp.mk (fun u hw => dAre_is ha hb (decide_eq_false h0) u (hL.below hw))
  clear ha hb hL h0 hv
  go_enter Tryz.func22, Tryz.ntmps22
  go_upto_region 1 with fail
  generalize ((w.alloc (.cells #[.int .i8 a.f, .int .i64 a.d, .int .i8 a.g, .int .i64 a.e] 26)).alloc (.cells #[.int .i8 b.f, .int .i64 b.d, .int .i8 b.g, .int .i64 b.e] 26)) = w0 at *
  have kHA0 := HA.out.c0
  have kHA1 := HA.out.c1
  have kHA2 := HA.out.c2
  have kHA3 := HA.out.c3
  have kHC0 := HC.out.c0
  have kHC1 := HC.out.c1
  have kHC2 := HC.out.c2
  have kHC3 := HC.out.c3
  go_wp2_with fail
  refine (r1.out _ HB.out.below).mono ?_
  rintro e u1 ⟨rfl, hbl⟩
  clear kHA0 kHA1 kHA2 kHA3 kHC0 kHC1 kHC2 kHC3
  have HB := Kp.mk (HB.out.step hbl)
  have HA := Kp.mk (HA.out.step hbl)
  have HC := Kp.mk (HC.out.step hbl)
  clear hbl
  have kHA0 := HA.out.c0
  have kHA1 := HA.out.c1
  have kHA2 := HA.out.c2
  have kHA3 := HA.out.c3
  have kHC0 := HC.out.c0
  have kHC1 := HC.out.c1
  have kHC2 := HC.out.c2
  have kHC3 := HC.out.c3
  go_wp2_with fail
  go_ret
  exact ⟨rfl, HB.out.below⟩
end Go.Proofs.YtndjcmclmhoigaaGreatDoor
namespace Go.Proofs.YtndjcmclmhoigaaGreatDoor
open Go.RowKit
set_option maxRecDepth 100000

/-- a block of the walk's own that holds a run -/
structure Rl (w : World) (k : Nat) (f d g e : Int) (W : World) : Prop where
 below : Below w.heap.size w W
 base : w.heap.size ≤ k
 heap : W.heap[k]? = some (.cells #[.int .i8 f, .int .i64 d, .int .i8 g, .int .i64 e] 26 (0, 0))
variable {w W W' : World} {k : Nat} {f d g e : Int}
theorem Rl.lt (h : Rl w k f d g e W) : k < W.heap.size := (Array.getElem?_eq_some_iff.1 h.heap).1
theorem Rl.ne (h : Rl w k f d g e W) : ¬ W.heap.size = k := by have := h.lt; omega
theorem Rl.step (h : Rl w k f d g e W) (hb : Below W.heap.size W W') : Rl w k f d g e W' := ⟨h.below.trans (hb.mono h.below.size), h.base, by rw [hb.block _ h.lt]; exact h.heap⟩
theorem rl_new (f d g e : Int) (hb : Below w.heap.size w W) : Rl w W.heap.size f d g e (W.alloc (.cells #[.int .i8 f, .int .i64 d, .int .i8 g, .int .i64 e] 26)) := ⟨hb.alloc hb.size _, hb.size, heap_alloc_new _ _⟩
theorem Rl.c0 (h : Rl w k f d g e W) : W.cell? ⟨k, 0, none⟩ = some (.int .i8 f) := by rw [cell_of_row W _ 0 _ _ _ h.heap]; rfl
theorem Rl.c1 (h : Rl w k f d g e W) : W.cell? ⟨k, 1, none⟩ = some (.int .i64 d) := by rw [cell_of_row W _ 1 _ _ _ h.heap]; rfl
theorem Rl.c2 (h : Rl w k f d g e W) : W.cell? ⟨k, 2, none⟩ = some (.int .i8 g) := by rw [cell_of_row W _ 2 _ _ _ h.heap]; rfl
theorem Rl.c3 (h : Rl w k f d g e W) : W.cell? ⟨k, 3, none⟩ = some (.int .i64 e) := by rw [cell_of_row W _ 3 _ _ _ h.heap]; rfl
theorem Rl.cs (h : Rl w k f d g e W) : W.cell? ⟨k, 0, none⟩ = some (.int .i8 f) ∧ W.cell? ⟨k, 1, none⟩ = some (.int .i64 d) ∧ W.cell? ⟨k, 2, none⟩ = some (.int .i8 g) ∧ W.cell? ⟨k, 3, none⟩ = some (.int .i64 e) := ⟨h.c0, h.c1, h.c2, h.c3⟩
theorem Rl.frozen (h : Rl w k f d g e W) (j : Nat) : W.frozen? ⟨k, j, none⟩ = false := frozen_of_row W _ j _ _ h.heap
/-- a run stored whole -/
def World.setL (W : World) (k : Nat) (f d g e : Int) : World :=
 (((W.setCell ⟨k, 0, none⟩ (.int .i8 f)).setCell ⟨k, 1, none⟩ (.int .i64 d)).setCell ⟨k, 2, none⟩ (.int .i8 g)).setCell ⟨k, 3, none⟩ (.int .i64 e)
theorem below_setL (h : Below w.heap.size w W) (hk : w.heap.size ≤ k) (f d g e : Int) : Below w.heap.size w (World.setL W k f d g e) :=
 (((h.setCell (p := ⟨k, 0, none⟩) hk _).setCell (p := ⟨k, 1, none⟩) hk _).setCell (p := ⟨k, 2, none⟩) hk _).setCell (p := ⟨k, 3, none⟩) hk _
theorem heap_setL (W : World) (k j : Nat) (f d g e : Int) (h : j ≠ k) : (World.setL W k f d g e).heap[j]? = W.heap[j]? := by
 unfold World.setL
 rw [heap_setCell_other _ _ _ _ h, heap_setCell_other _ _ _ _ h, heap_setCell_other _ _ _ _ h, heap_setCell_other _ _ _ _ h]
theorem Rl.other {j : Nat} (h : Rl w k f d g e W) (hn : ¬ k = j) (hj : w.heap.size ≤ j) (f' d' g' e' : Int) : Rl w k f d g e (World.setL W j f' d' g' e') := ⟨below_setL h.below hj f' d' g' e', h.base, by rw [heap_setL W j k f' d' g' e' hn]; exact h.heap⟩
theorem Rl.fill (h : Rl w k f d g e W) (f' d' g' e' : Int) : Rl w k f' d' g' e' (World.setL W k f' d' g' e') := by
 refine ⟨below_setL h.below h.base f' d' g' e', h.base, ?_⟩
 unfold World.setL
 rw [heap_setCell_same _ k 3 _ _ _ (heap_setCell_same _ k 2 _ _ _ (heap_setCell_same _ k 1 _ _ _ (heap_setCell_same _ k 0 _ _ _ h.heap)))]
 rfl
theorem Rl.row (h : Rl w k f d g e W) (f' d' g' e' : Int) : Rl w k f' d' g' e' (W.setRow k #[.int .i8 f', .int .i64 d', .int .i8 g', .int .i64 e']) := ⟨below_setRow h.below h.base _, h.base, setRow_heap _ _ _ _ _ _ h.heap⟩
theorem ERow.lt (h : ERow w k f d W) : k < W.heap.size := (Array.getElem?_eq_some_iff.1 h.heap).1
theorem ERow.ne (h : ERow w k f d W) : ¬ W.heap.size = k := by have := h.lt; omega
theorem ERow.c0 (h : ERow w k f d W) : W.cell? ⟨k, 0, none⟩ = some (.int .i8 f) := by rw [cell_of_row W _ 0 _ _ _ h.heap]; rfl
theorem ERow.c1 (h : ERow w k f d W) : W.cell? ⟨k, 1, none⟩ = some (.int .i64 d) := by rw [cell_of_row W _ 1 _ _ _ h.heap]; rfl
theorem ERow.other {j : Nat} (h : ERow w k f d W) (hn : ¬ k = j) (hj : w.heap.size ≤ j) (f' d' g' e' : Int) : ERow w k f d (World.setL W j f' d' g' e') := ⟨below_setL h.below hj f' d' g' e', h.base, by rw [heap_setL W j k f' d' g' e' hn]; exact h.heap⟩
end Go.Proofs.YtndjcmclmhoigaaGreatDoor
