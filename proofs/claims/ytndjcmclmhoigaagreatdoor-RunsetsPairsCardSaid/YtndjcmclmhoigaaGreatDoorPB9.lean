/-
 DERIVED. CONTRACTS of package runs (the developers' functions): Within, Has. Written by mkrnd3.py.
 DERIVED. Blocks of a walk's own, whatever they hold.
 DERIVED. CONTRACTS of package ints that later layers call: differences.
 DERIVED. CONTRACTS of package runs (the developers' functions): Len, right, endsOf, runOf, shift, each over ends, Shift. Written by mkrnd4.py.
-/
import Derived.Test.YtndjcmclmhoigaaGreatDoorPRnDvJ
import Derived.Test.YtndjcmclmhoigaaGreatDoorPB8
import Derived.Test.YtndjcmclmhoigaaGreatDoorPB5
namespace Go.Proofs.YtndjcmclmhoigaaGreatDoor
open Go.RowKit
set_option maxRecDepth 100000

theorem comm_within {a b v : Rn} (ha : a.Ok) (hb : b.Ok) (hv : commN a b = v) : v = a ↔ b.lo ≤ a.lo ∧ a.hi ≤ b.hi := by
 obtain ⟨q0, q1, q2, q3⟩ := commN_f hv
 have p1 := ha.pos
 have p2 := hb.pos
 have p1l := p1.pl
 have p1h := p1.ph
 have p2l := p2.pl
 have p2h := p2.ph
 rw [cmp_lo ha hb] at q0 q1
 rw [cmp_hi ha hb] at q2 q3
 have e1 := cmpI_cases a.lo b.lo
 have e2 := cmpI_cases a.hi b.hi
 generalize cmpI a.lo b.lo = x at *
 generalize cmpI a.hi b.hi = y at *
 have key : v = a ↔ v.f = a.f ∧ v.d = a.d ∧ v.g = a.g ∧ v.e = a.e := by
  cases v; cases a; simp only [Rn.mk.injEq]
 rw [key]
 clear hv ha hb p1 p2 key
 rcases e1 with e1 | e1 | e1 <;> rcases e2 with e2 | e2 | e2 <;> simp only [e1.2, e2.2] at q0 q1 q2 q3 <;> simp at q0 q1 q2 q3 <;> constructor <;> intro h <;> omega
theorem inN_meet {a b : Rn} (ha : a.In) (h : inN a b = true) : meetN a b = true := by
 obtain ⟨h1, h2, h3, h4⟩ := of_decide_eq_true h
 have p1 := ((chkR_zero ha).1 h1).pos.le
 exact decide_eq_true ⟨h1, h2, by omega, by omega⟩
set_option maxHeartbeats 8000000 in
theorem dIn_is {a b : Rn} {v : Bool} (ha : a.In) (hb : b.In) (hv : inN a b = v) (w : World) (hL : LaidEn w) :
 Calls Tryz.prog 26 #[.agg #[.int .i8 a.f, .int .i64 a.d, .int .i8 a.g, .int .i64 a.e], .agg #[.int .i8 b.f, .int .i64 b.d, .int .i8 b.g, .int .i64 b.e]] w fun x w' => x = .returned (.bool v) ∧ Below w.heap.size w w' := by
 have HA := Kp.mk (rg_two w a b).1
 have HC := Kp.mk (rg_two w a b).2
 have HB := Kp.mk (bl_of HA.out)
 by_cases hm : meetN a b = true
 ·obtain ⟨c1, c2, _, _⟩ := of_decide_eq_true hm
  obtain ⟨c, hc⟩ : ∃ c, commN a b = c := ⟨_, rfl⟩
  have hj := comm_within ((chkR_zero ha).1 c1) ((chkR_zero hb).1 c2) hc
  have r1 : Kp (∀ u, Below w.heap.size w u → Calls Tryz.prog 21 #[.agg #[.int .i8 a.f, .int .i64 a.d, .int .i8 a.g, .int .i64 a.e], .agg #[.int .i8 b.f, .int .i64 b.d, .int .i8 b.g, .int .i64 b.e]] u fun e w' => e = .returned (.tuple #[.agg #[.int .i8 c.f, .int .i64 c.d, .int .i8 c.g, .int .i64 c.e], .bool true]) ∧ Below u.heap.size u w') := Kp.mk (fun u hw => dComm_is ha hb hm hc u (hL.below hw))
  have hv' : decide (b.lo ≤ a.lo ∧ a.hi ≤ b.hi) = v := by rw [← hv]; unfold inN; rw [decide_eq_decide]; omega
  clear hv hc hL hm ha hb
  by_cases x0 : c.f = a.f
  ·have e0 : (c.f == a.f) = true := by rw [beq_iff_eq]; exact x0
   by_cases x1 : c.d = a.d
   ·have e1 : (c.d == a.d) = true := by rw [beq_iff_eq]; exact x1
    by_cases x2 : c.g = a.g
    ·have e2 : (c.g == a.g) = true := by rw [beq_iff_eq]; exact x2
     by_cases x3 : c.e = a.e
     ·have e3 : (c.e == a.e) = true := by rw [beq_iff_eq]; exact x3
      obtain rfl : true = v := by rw [← hv']; symm; rw [decide_eq_true_iff]; apply hj.1; cases c; cases a; simp only at x0 x1 x2 x3; rw [x0, x1, x2, x3]
      clear hj hv' c1 c2 x0 x1 x2 x3
      go_enter Tryz.func26, Tryz.ntmps26
      go_upto_region 1 with fail
      generalize ((w.alloc (.cells #[.int .i8 a.f, .int .i64 a.d, .int .i8 a.g, .int .i64 a.e] 26)).alloc (.cells #[.int .i8 b.f, .int .i64 b.d, .int .i8 b.g, .int .i64 b.e] 26)) = w0 at *
      have kHA0 := HA.out.c0
      have kHA1 := HA.out.c1
      have kHA2 := HA.out.c2
      have kHA3 := HA.out.c3
      have kHC0 := HC.out.c0
      have kHC1 := HC.out.c1
      have kHC2 := HC.out.c2
      have kHC3 := HC.out.c3
      go_wp2_with fail
      refine (r1.out _ HB.out.below).mono ?_
      rintro e u1 ⟨rfl, hbl⟩
      clear kHA0 kHA1 kHA2 kHA3 kHC0 kHC1 kHC2 kHC3
      have HB := Kp.mk (HB.out.step hbl)
      have HA := Kp.mk (HA.out.step hbl)
      have HC := Kp.mk (HC.out.step hbl)
      clear hbl
      have kHA0 := HA.out.c0
      have kHA1 := HA.out.c1
      have kHA2 := HA.out.c2
      have kHA3 := HA.out.c3
      have kHC0 := HC.out.c0
      have kHC1 := HC.out.c1
      have kHC2 := HC.out.c2
      have kHC3 := HC.out.c3
      go_upto_region 2 with fail
      clear kHA0 kHA1 kHA2 kHA3 kHC0 kHC1 kHC2 kHC3
      have HX := Kp.mk (rg_new c 26 HB.out.below)
      have hbl := (Below.refl u1.heap.size u1).alloc (Nat.le_refl _) (.cells #[.int .i8 c.f, .int .i64 c.d, .int .i8 c.g, .int .i64 c.e] 26)
      have HB := Kp.mk (HB.out.step hbl)
      have HA := Kp.mk (HA.out.step hbl)
      have HC := Kp.mk (HC.out.step hbl)
      clear hbl
      generalize u1.alloc (.cells #[.int .i8 c.f, .int .i64 c.d, .int .i8 c.g, .int .i64 c.e] 26) = u2 at *
      generalize u1.heap.size = gx at *
      have kHA0 := HA.out.c0
      have kHA1 := HA.out.c1
      have kHA2 := HA.out.c2
      have kHA3 := HA.out.c3
      have kHC0 := HC.out.c0
      have kHC1 := HC.out.c1
      have kHC2 := HC.out.c2
      have kHC3 := HC.out.c3
      have kHX0 := HX.out.c0
      have kHX1 := HX.out.c1
      have kHX2 := HX.out.c2
      have kHX3 := HX.out.c3
      go_wp2_with fail
      go_ret
      exact ⟨rfl, HB.out.below⟩
     ·have e3 : (c.e == a.e) = false := by rw [beq_eq_false_iff_ne]; exact x3
      obtain rfl : false = v := by rw [← hv']; symm; rw [decide_eq_false_iff_not]; intro q; exact x3 (by rw [hj.2 q])
      clear hj hv' c1 c2 x0 x1 x2 x3
      go_enter Tryz.func26, Tryz.ntmps26
      go_upto_region 1 with fail
      generalize ((w.alloc (.cells #[.int .i8 a.f, .int .i64 a.d, .int .i8 a.g, .int .i64 a.e] 26)).alloc (.cells #[.int .i8 b.f, .int .i64 b.d, .int .i8 b.g, .int .i64 b.e] 26)) = w0 at *
      have kHA0 := HA.out.c0
      have kHA1 := HA.out.c1
      have kHA2 := HA.out.c2
      have kHA3 := HA.out.c3
      have kHC0 := HC.out.c0
      have kHC1 := HC.out.c1
      have kHC2 := HC.out.c2
      have kHC3 := HC.out.c3
      go_wp2_with fail
      refine (r1.out _ HB.out.below).mono ?_
      rintro e u1 ⟨rfl, hbl⟩
      clear kHA0 kHA1 kHA2 kHA3 kHC0 kHC1 kHC2 kHC3
      have HB := Kp.mk (HB.out.step hbl)
      have HA := Kp.mk (HA.out.step hbl)
      have HC := Kp.mk (HC.out.step hbl)
      clear hbl
      have kHA0 := HA.out.c0
      have kHA1 := HA.out.c1
      have kHA2 := HA.out.c2
      have kHA3 := HA.out.c3
      have kHC0 := HC.out.c0
      have kHC1 := HC.out.c1
      have kHC2 := HC.out.c2
      have kHC3 := HC.out.c3
      go_upto_region 2 with fail
      clear kHA0 kHA1 kHA2 kHA3 kHC0 kHC1 kHC2 kHC3
      have HX := Kp.mk (rg_new c 26 HB.out.below)
      have hbl := (Below.refl u1.heap.size u1).alloc (Nat.le_refl _) (.cells #[.int .i8 c.f, .int .i64 c.d, .int .i8 c.g, .int .i64 c.e] 26)
      have HB := Kp.mk (HB.out.step hbl)
      have HA := Kp.mk (HA.out.step hbl)
      have HC := Kp.mk (HC.out.step hbl)
      clear hbl
      generalize u1.alloc (.cells #[.int .i8 c.f, .int .i64 c.d, .int .i8 c.g, .int .i64 c.e] 26) = u2 at *
      generalize u1.heap.size = gx at *
      have kHA0 := HA.out.c0
      have kHA1 := HA.out.c1
      have kHA2 := HA.out.c2
      have kHA3 := HA.out.c3
      have kHC0 := HC.out.c0
      have kHC1 := HC.out.c1
      have kHC2 := HC.out.c2
      have kHC3 := HC.out.c3
      have kHX0 := HX.out.c0
      have kHX1 := HX.out.c1
      have kHX2 := HX.out.c2
      have kHX3 := HX.out.c3
      go_wp2_with fail
      go_ret
      exact ⟨rfl, HB.out.below⟩
    ·have e2 : (c.g == a.g) = false := by rw [beq_eq_false_iff_ne]; exact x2
     obtain rfl : false = v := by rw [← hv']; symm; rw [decide_eq_false_iff_not]; intro q; exact x2 (by rw [hj.2 q])
     clear hj hv' c1 c2 x0 x1 x2
     go_enter Tryz.func26, Tryz.ntmps26
     go_upto_region 1 with fail
     generalize ((w.alloc (.cells #[.int .i8 a.f, .int .i64 a.d, .int .i8 a.g, .int .i64 a.e] 26)).alloc (.cells #[.int .i8 b.f, .int .i64 b.d, .int .i8 b.g, .int .i64 b.e] 26)) = w0 at *
     have kHA0 := HA.out.c0
     have kHA1 := HA.out.c1
     have kHA2 := HA.out.c2
     have kHA3 := HA.out.c3
     have kHC0 := HC.out.c0
     have kHC1 := HC.out.c1
     have kHC2 := HC.out.c2
     have kHC3 := HC.out.c3
     go_wp2_with fail
     refine (r1.out _ HB.out.below).mono ?_
     rintro e u1 ⟨rfl, hbl⟩
     clear kHA0 kHA1 kHA2 kHA3 kHC0 kHC1 kHC2 kHC3
     have HB := Kp.mk (HB.out.step hbl)
     have HA := Kp.mk (HA.out.step hbl)
     have HC := Kp.mk (HC.out.step hbl)
     clear hbl
     have kHA0 := HA.out.c0
     have kHA1 := HA.out.c1
     have kHA2 := HA.out.c2
     have kHA3 := HA.out.c3
     have kHC0 := HC.out.c0
     have kHC1 := HC.out.c1
     have kHC2 := HC.out.c2
     have kHC3 := HC.out.c3
     go_upto_region 2 with fail
     clear kHA0 kHA1 kHA2 kHA3 kHC0 kHC1 kHC2 kHC3
     have HX := Kp.mk (rg_new c 26 HB.out.below)
     have hbl := (Below.refl u1.heap.size u1).alloc (Nat.le_refl _) (.cells #[.int .i8 c.f, .int .i64 c.d, .int .i8 c.g, .int .i64 c.e] 26)
     have HB := Kp.mk (HB.out.step hbl)
     have HA := Kp.mk (HA.out.step hbl)
     have HC := Kp.mk (HC.out.step hbl)
     clear hbl
     generalize u1.alloc (.cells #[.int .i8 c.f, .int .i64 c.d, .int .i8 c.g, .int .i64 c.e] 26) = u2 at *
     generalize u1.heap.size = gx at *
     have kHA0 := HA.out.c0
     have kHA1 := HA.out.c1
     have kHA2 := HA.out.c2
     have kHA3 := HA.out.c3
     have kHC0 := HC.out.c0
     have kHC1 := HC.out.c1
     have kHC2 := HC.out.c2
     have kHC3 := HC.out.c3
     have kHX0 := HX.out.c0
     have kHX1 := HX.out.c1
     have kHX2 := HX.out.c2
     have kHX3 := HX.out.c3
     go_wp2_with fail
     go_ret
     exact ⟨rfl, HB.out.below⟩
   ·have e1 : (c.d == a.d) = false := by rw [beq_eq_false_iff_ne]; exact x1
    obtain rfl : false = v := by rw [← hv']; symm; rw [decide_eq_false_iff_not]; intro q; exact x1 (by rw [hj.2 q])
    clear hj hv' c1 c2 x0 x1
    go_enter Tryz.func26, Tryz.ntmps26
    go_upto_region 1 with fail
    generalize ((w.alloc (.cells #[.int .i8 a.f, .int .i64 a.d, .int .i8 a.g, .int .i64 a.e] 26)).alloc (.cells #[.int .i8 b.f, .int .i64 b.d, .int .i8 b.g, .int .i64 b.e] 26)) = w0 at *
    have kHA0 := HA.out.c0
    have kHA1 := HA.out.c1
    have kHA2 := HA.out.c2
    have kHA3 := HA.out.c3
    have kHC0 := HC.out.c0
    have kHC1 := HC.out.c1
    have kHC2 := HC.out.c2
    have kHC3 := HC.out.c3
    go_wp2_with fail
    refine (r1.out _ HB.out.below).mono ?_
    rintro e u1 ⟨rfl, hbl⟩
    clear kHA0 kHA1 kHA2 kHA3 kHC0 kHC1 kHC2 kHC3
    have HB := Kp.mk (HB.out.step hbl)
    have HA := Kp.mk (HA.out.step hbl)
    have HC := Kp.mk (HC.out.step hbl)
    clear hbl
    have kHA0 := HA.out.c0
    have kHA1 := HA.out.c1
    have kHA2 := HA.out.c2
    have kHA3 := HA.out.c3
    have kHC0 := HC.out.c0
    have kHC1 := HC.out.c1
    have kHC2 := HC.out.c2
    have kHC3 := HC.out.c3
    go_upto_region 2 with fail
    clear kHA0 kHA1 kHA2 kHA3 kHC0 kHC1 kHC2 kHC3
    have HX := Kp.mk (rg_new c 26 HB.out.below)
    have hbl := (Below.refl u1.heap.size u1).alloc (Nat.le_refl _) (.cells #[.int .i8 c.f, .int .i64 c.d, .int .i8 c.g, .int .i64 c.e] 26)
    have HB := Kp.mk (HB.out.step hbl)
    have HA := Kp.mk (HA.out.step hbl)
    have HC := Kp.mk (HC.out.step hbl)
    clear hbl
    generalize u1.alloc (.cells #[.int .i8 c.f, .int .i64 c.d, .int .i8 c.g, .int .i64 c.e] 26) = u2 at *
    generalize u1.heap.size = gx at *
    have kHA0 := HA.out.c0
    have kHA1 := HA.out.c1
    have kHA2 := HA.out.c2
    have kHA3 := HA.out.c3
    have kHC0 := HC.out.c0
    have kHC1 := HC.out.c1
    have kHC2 := HC.out.c2
    have kHC3 := HC.out.c3
    have kHX0 := HX.out.c0
    have kHX1 := HX.out.c1
    have kHX2 := HX.out.c2
    have kHX3 := HX.out.c3
    go_wp2_with fail
    go_ret
    exact ⟨rfl, HB.out.below⟩
  ·have e0 : (c.f == a.f) = false := by rw [beq_eq_false_iff_ne]; exact x0
   obtain rfl : false = v := by rw [← hv']; symm; rw [decide_eq_false_iff_not]; intro q; exact x0 (by rw [hj.2 q])
   clear hj hv' c1 c2 x0
   go_enter Tryz.func26, Tryz.ntmps26
   go_upto_region 1 with fail
   generalize ((w.alloc (.cells #[.int .i8 a.f, .int .i64 a.d, .int .i8 a.g, .int .i64 a.e] 26)).alloc (.cells #[.int .i8 b.f, .int .i64 b.d, .int .i8 b.g, .int .i64 b.e] 26)) = w0 at *
   have kHA0 := HA.out.c0
   have kHA1 := HA.out.c1
   have kHA2 := HA.out.c2
   have kHA3 := HA.out.c3
   have kHC0 := HC.out.c0
   have kHC1 := HC.out.c1
   have kHC2 := HC.out.c2
   have kHC3 := HC.out.c3
   go_wp2_with fail
   refine (r1.out _ HB.out.below).mono ?_
   rintro e u1 ⟨rfl, hbl⟩
   clear kHA0 kHA1 kHA2 kHA3 kHC0 kHC1 kHC2 kHC3
   have HB := Kp.mk (HB.out.step hbl)
   have HA := Kp.mk (HA.out.step hbl)
   have HC := Kp.mk (HC.out.step hbl)
   clear hbl
   have kHA0 := HA.out.c0
   have kHA1 := HA.out.c1
   have kHA2 := HA.out.c2
   have kHA3 := HA.out.c3
   have kHC0 := HC.out.c0
   have kHC1 := HC.out.c1
   have kHC2 := HC.out.c2
   have kHC3 := HC.out.c3
   go_upto_region 2 with fail
   clear kHA0 kHA1 kHA2 kHA3 kHC0 kHC1 kHC2 kHC3
   have HX := Kp.mk (rg_new c 26 HB.out.below)
   have hbl := (Below.refl u1.heap.size u1).alloc (Nat.le_refl _) (.cells #[.int .i8 c.f, .int .i64 c.d, .int .i8 c.g, .int .i64 c.e] 26)
   have HB := Kp.mk (HB.out.step hbl)
   have HA := Kp.mk (HA.out.step hbl)
   have HC := Kp.mk (HC.out.step hbl)
   clear hbl
   generalize u1.alloc (.cells #[.int .i8 c.f, .int .i64 c.d, .int .i8 c.g, .int .i64 c.e] 26) = u2 at *
   generalize u1.heap.size = gx at *
   have kHA0 := HA.out.c0
   have kHA1 := HA.out.c1
   have kHA2 := HA.out.c2
   have kHA3 := HA.out.c3
   have kHC0 := HC.out.c0
   have kHC1 := HC.out.c1
   have kHC2 := HC.out.c2
   have kHC3 := HC.out.c3
   have kHX0 := HX.out.c0
   have kHX1 := HX.out.c1
   have kHX2 := HX.out.c2
   have kHX3 := HX.out.c3
   go_wp2_with fail
   go_ret
   exact ⟨rfl, HB.out.below⟩
 ·have hm : meetN a b = false := by cases h : meetN a b with | true => exact absurd h hm | false => rfl
  obtain rfl : false = v := by
   rw [← hv]
   cases h : inN a b with
   | true => rw [inN_meet ha h] at hm; cases hm
   | false => rfl
  have r1 : Kp (∀ u, Below w.heap.size w u → Calls Tryz.prog 21 #[.agg #[.int .i8 a.f, .int .i64 a.d, .int .i8 a.g, .int .i64 a.e], .agg #[.int .i8 b.f, .int .i64 b.d, .int .i8 b.g, .int .i64 b.e]] u fun e w' => e = .returned (.tuple #[.agg #[.int .i8 0, .int .i64 0, .int .i8 0, .int .i64 0], .bool false]) ∧ Below u.heap.size u w') := Kp.mk (fun u hw => dComm_no ha hb hm u (hL.below hw))
  clear hv hL hm ha hb
  go_enter Tryz.func26, Tryz.ntmps26
  go_upto_region 1 with fail
  generalize ((w.alloc (.cells #[.int .i8 a.f, .int .i64 a.d, .int .i8 a.g, .int .i64 a.e] 26)).alloc (.cells #[.int .i8 b.f, .int .i64 b.d, .int .i8 b.g, .int .i64 b.e] 26)) = w0 at *
  have kHA0 := HA.out.c0
  have kHA1 := HA.out.c1
  have kHA2 := HA.out.c2
  have kHA3 := HA.out.c3
  have kHC0 := HC.out.c0
  have kHC1 := HC.out.c1
  have kHC2 := HC.out.c2
  have kHC3 := HC.out.c3
  go_wp2_with fail
  refine (r1.out _ HB.out.below).mono ?_
  rintro e u1 ⟨rfl, hbl⟩
  clear kHA0 kHA1 kHA2 kHA3 kHC0 kHC1 kHC2 kHC3
  have HB := Kp.mk (HB.out.step hbl)
  have HA := Kp.mk (HA.out.step hbl)
  have HC := Kp.mk (HC.out.step hbl)
  clear hbl
  have kHA0 := HA.out.c0
  have kHA1 := HA.out.c1
  have kHA2 := HA.out.c2
  have kHA3 := HA.out.c3
  have kHC0 := HC.out.c0
  have kHC1 := HC.out.c1
  have kHC2 := HC.out.c2
  have kHC3 := HC.out.c3
  go_upto_region 2 with fail
  clear kHA0 kHA1 kHA2 kHA3 kHC0 kHC1 kHC2 kHC3
  have HX := Kp.mk (rg_zero  26 HB.out.below)
  have hbl := (Below.refl u1.heap.size u1).alloc (Nat.le_refl _) (.cells #[.int .i8 0, .int .i64 0, .int .i8 0, .int .i64 0] 26)
  have HB := Kp.mk (HB.out.step hbl)
  have HA := Kp.mk (HA.out.step hbl)
  have HC := Kp.mk (HC.out.step hbl)
  clear hbl
  generalize u1.alloc (.cells #[.int .i8 0, .int .i64 0, .int .i8 0, .int .i64 0] 26) = u2 at *
  generalize u1.heap.size = gx at *
  have kHA0 := HA.out.c0
  have kHA1 := HA.out.c1
  have kHA2 := HA.out.c2
  have kHA3 := HA.out.c3
  have kHC0 := HC.out.c0
  have kHC1 := HC.out.c1
  have kHC2 := HC.out.c2
  have kHC3 := HC.out.c3
  have kHX0 := HX.out.c0
  have kHX1 := HX.out.c1
  have kHX2 := HX.out.c2
  have kHX3 := HX.out.c3
  go_wp2_with fail
  go_ret
  exact ⟨rfl, HB.out.below⟩
theorem point_in {r : Rn} {x : Int} (x0 : -9223372036854775808 ≤ x) (x1 : x ≤ 9223372036854775807) : (⟨0, x, 0, x⟩ : Rn).In ∧ inN ⟨0, x, 0, x⟩ r = hasN r x := by
 have hi : (⟨0, x, 0, x⟩ : Rn).In := ⟨x0, x1, x0, x1⟩
 have ho : (⟨0, x, 0, x⟩ : Rn).Ok := { hi with lof := .inl rfl, hif := .inl rfl, le := fun _ _ => Int.le_refl _ }
 refine ⟨hi, ?_⟩
 have h1 := (chkR_zero hi).2 ho
 have h2 : (⟨0, x, 0, x⟩ : Rn).lo = x := by unfold Rn.lo posE; simp
 have h3 : (⟨0, x, 0, x⟩ : Rn).hi = x := by unfold Rn.hi posE; simp
 unfold inN hasN
 rw [decide_eq_decide, h2, h3]
 constructor
 ·intro h; exact h.2
 ·intro h; exact ⟨h1, h⟩
set_option maxHeartbeats 8000000 in
theorem dHas_is {r : Rn} {x : Int} {v : Bool} (hr : r.In) (x0 : -9223372036854775808 ≤ x) (x1 : x ≤ 9223372036854775807) (hv : hasN r x = v) (w : World) (hL : LaidEn w) :
 Calls Tryz.prog 28 #[.agg #[.int .i8 r.f, .int .i64 r.d, .int .i8 r.g, .int .i64 r.e], .int .i64 x] w fun z w' => z = .returned (.bool v) ∧ Below w.heap.size w w' := by
 have HA := Kp.mk (rg_new r 26 (Below.refl w.heap.size w))
 have HB := Kp.mk (bl_of HA.out)
 obtain ⟨hp, he⟩ := point_in (r := r) x0 x1
 rw [hv] at he
 have r1 : Kp (∀ u, Below w.heap.size w u → Calls Tryz.prog 83 #[.int .i64 x] u fun e w' => e = .returned (.agg #[.int .i8 0, .int .i64 x]) ∧ Below u.heap.size u w') := Kp.mk (fun u hw => endCoreN.of u (hL.below hw) x0 x1)
 have r2 : Kp (∀ u, Below w.heap.size w u → Calls Tryz.prog 26 #[.agg #[.int .i8 0, .int .i64 x, .int .i8 0, .int .i64 x], .agg #[.int .i8 r.f, .int .i64 r.d, .int .i8 r.g, .int .i64 r.e]] u fun e w' => e = .returned (.bool v) ∧ Below u.heap.size u w') := Kp.mk (fun u hw => dIn_is hp hr he u (hL.below hw))
 clear hp he hv hL hr
 go_enter Tryz.func28, Tryz.ntmps28
 go_upto_region 1 with fail
 generalize (w.alloc (.cells #[.int .i8 r.f, .int .i64 r.d, .int .i8 r.g, .int .i64 r.e] 26)) = w0 at *
 have kHA0 := HA.out.c0
 have kHA1 := HA.out.c1
 have kHA2 := HA.out.c2
 have kHA3 := HA.out.c3
 go_wp2_with fail
 refine (r1.out _ HB.out.below).mono ?_
 rintro e u1 ⟨rfl, hbl⟩
 clear kHA0 kHA1 kHA2 kHA3
 have HB := Kp.mk (HB.out.step hbl)
 have HA := Kp.mk (HA.out.step hbl)
 clear hbl
 have kHA0 := HA.out.c0
 have kHA1 := HA.out.c1
 have kHA2 := HA.out.c2
 have kHA3 := HA.out.c3
 go_upto_region 2 with fail
 clear kHA0 kHA1 kHA2 kHA3
 have HX := Kp.mk (eb_new 0 x 24 HB.out.below)
 have hbl := (Below.refl u1.heap.size u1).alloc (Nat.le_refl _) (.cells #[.int .i8 0, .int .i64 x] 24)
 have HB := Kp.mk (HB.out.step hbl)
 have HA := Kp.mk (HA.out.step hbl)
 clear hbl
 generalize u1.alloc (.cells #[.int .i8 0, .int .i64 x] 24) = u2 at *
 generalize u1.heap.size = gx at *
 have kHA0 := HA.out.c0
 have kHA1 := HA.out.c1
 have kHA2 := HA.out.c2
 have kHA3 := HA.out.c3
 have kHX0 := HX.out.c0
 have kHX1 := HX.out.c1
 go_wp2_with fail
 refine (r2.out _ HB.out.below).mono ?_
 rintro e u3 ⟨rfl, hbl⟩
 clear kHA0 kHA1 kHA2 kHA3 kHX0 kHX1
 have HB := Kp.mk (HB.out.step hbl)
 have HA := Kp.mk (HA.out.step hbl)
 have HX := Kp.mk (HX.out.step hbl)
 clear hbl
 have kHA0 := HA.out.c0
 have kHA1 := HA.out.c1
 have kHA2 := HA.out.c2
 have kHA3 := HA.out.c3
 have kHX0 := HX.out.c0
 have kHX1 := HX.out.c1
 go_wp2_with fail
 go_ret
 exact ⟨rfl, HB.out.below⟩
end Go.Proofs.YtndjcmclmhoigaaGreatDoor
namespace Go.Proofs.YtndjcmclmhoigaaGreatDoor
open Go.RowKit
set_option maxRecDepth 100000

/-- a block of the walk's own -/
structure Ob (w : World) (k : Nat) (t : TypeId) (cs : Array Value) (W : World) : Prop where
 below : Below w.heap.size w W
 base : w.heap.size ≤ k
 heap : W.heap[k]? = some (.cells cs t (0, 0))
variable {w W W' : World} {k : Nat} {t : TypeId} {cs : Array Value}
theorem Ob.lt (h : Ob w k t cs W) : k < W.heap.size := (Array.getElem?_eq_some_iff.1 h.heap).1
theorem Ob.step (h : Ob w k t cs W) (hb : Below W.heap.size W W') : Ob w k t cs W' := ⟨h.below.trans (hb.mono h.below.size), h.base, by rw [hb.block _ h.lt]; exact h.heap⟩
theorem ob_new (t : TypeId) (cs : Array Value) (hb : Below w.heap.size w W) : Ob w W.heap.size t cs (W.alloc (.cells cs t)) := ⟨hb.alloc hb.size _, hb.size, heap_alloc_new _ _⟩
theorem Ob.cell (h : Ob w k t cs W) {j : Nat} {v : Value} (hv : cs[j]? = some v) : W.cell? ⟨k, j, none⟩ = some v := by rw [cell_of_row W _ j _ _ _ h.heap, hv]
theorem Ob.rg {r : Rn} (h : Ob w k t #[.int .i8 r.f, .int .i64 r.d, .int .i8 r.g, .int .i64 r.e] W) : Rg w k r W := ⟨h.below, h.lt, h.cell rfl, h.cell rfl, h.cell rfl, h.cell rfl⟩
theorem ob_two (w : World) (c1 c2 : Array Value) (t1 t2 : TypeId) : Ob w w.heap.size t1 c1 ((w.alloc (.cells c1 t1)).alloc (.cells c2 t2)) ∧ Ob w (w.heap.size + 1) t2 c2 ((w.alloc (.cells c1 t1)).alloc (.cells c2 t2)) := by
 have h1 := ob_new t1 c1 (Below.refl w.heap.size w)
 have h2 := ob_new t2 c2 h1.below
 rw [World.size_alloc] at h2
 exact ⟨h1.step ((Below.refl (w.alloc (.cells c1 t1)).heap.size _).alloc (Nat.le_refl _) (.cells c2 t2)), h2⟩
theorem ob_three (w : World) (c1 c2 c3 : Array Value) (t1 t2 t3 : TypeId) : Ob w w.heap.size t1 c1 (((w.alloc (.cells c1 t1)).alloc (.cells c2 t2)).alloc (.cells c3 t3)) ∧ Ob w (w.heap.size + 1) t2 c2 (((w.alloc (.cells c1 t1)).alloc (.cells c2 t2)).alloc (.cells c3 t3)) ∧ Ob w (w.heap.size + 1 + 1) t3 c3 (((w.alloc (.cells c1 t1)).alloc (.cells c2 t2)).alloc (.cells c3 t3)) := by
 obtain ⟨h1, h2⟩ := ob_two w c1 c2 t1 t2
 have h3 := ob_new t3 c3 h1.below
 rw [World.size_alloc, World.size_alloc] at h3
 have hs := (Below.refl ((w.alloc (.cells c1 t1)).alloc (.cells c2 t2)).heap.size _).alloc (Nat.le_refl _) (.cells c3 t3)
 exact ⟨h1.step hs, h2.step hs, h3⟩
end Go.Proofs.YtndjcmclmhoigaaGreatDoor
namespace Go.Proofs.YtndjcmclmhoigaaGreatDoor
open Go.RowKit

set_option maxHeartbeats 400000 in
theorem sub_over (p0 p1 p2 p3 : Addr) (a b s : Int) (u : FrameMode) (w : World) (h0 : w.cell? p0 = some (.int .i64 a)) (h1 : w.cell? p1 = some (.int .i64 b)) (h2 : w.cell? p2 = some (.int .i64 s)) (f : w.frozen? p2 = false) (h3 : (w.setCell p2 (.int .i64 0)).cell? p3 = some (.int .i64 0)) (f3 : (w.setCell p2 (.int .i64 0)).frozen? p3 = false) (d1 : differB a b = true) (d2 : differB a s = true) :
 CallsD Tryz.prog 130 #[.pointer (some p0), .pointer (some p1), .pointer (some p2), .pointer (some p3)] u w fun e u' w' => u' = u ∧ (e = .returned (.tuple #[]) ∧ w' = (w.setCell p2 (.int .i64 0)).setCell p3 (.int .i64 15)) := by
 have D1 := Lib.hid d1; clear d1
 have D2 := Lib.hid d2; clear d2
 go_enter_d Tryz.func130, Tryz.ntmps130
 go_wp2_with fail
 refine (differ_is D1.out _).mono ?_
 rintro e w' ⟨rfl, rfl⟩
 go_wp2_with fail
 refine (differ_is D2.out _).mono ?_
 rintro e w' ⟨rfl, rfl⟩
 go_wp2_with fail
 go_end0
 exact ⟨rfl, rfl⟩

set_option maxHeartbeats 400000 in
theorem sub_fits1 (p0 p1 p2 p3 : Addr) (a b s : Int) (u : FrameMode) (w : World) (h0 : w.cell? p0 = some (.int .i64 a)) (h1 : w.cell? p1 = some (.int .i64 b)) (_h2 : w.cell? p2 = some (.int .i64 s)) (d1 : differB a b = false) :
 CallsD Tryz.prog 130 #[.pointer (some p0), .pointer (some p1), .pointer (some p2), .pointer (some p3)] u w fun e u' w' => u' = u ∧ (e = .returned (.tuple #[]) ∧ w = w') := by
 have D1 := Lib.hid d1; clear d1
 go_enter_d Tryz.func130, Tryz.ntmps130
 go_wp2_with fail
 refine (differ_is D1.out _).mono ?_
 rintro e w' ⟨rfl, rfl⟩
 go_wp2_with fail
 go_end0
 exact ⟨rfl, rfl⟩

set_option maxHeartbeats 400000 in
theorem sub_fits2 (p0 p1 p2 p3 : Addr) (a b s : Int) (u : FrameMode) (w : World) (h0 : w.cell? p0 = some (.int .i64 a)) (h1 : w.cell? p1 = some (.int .i64 b)) (h2 : w.cell? p2 = some (.int .i64 s)) (d1 : differB a b = true) (d2 : differB a s = false) :
 CallsD Tryz.prog 130 #[.pointer (some p0), .pointer (some p1), .pointer (some p2), .pointer (some p3)] u w fun e u' w' => u' = u ∧ (e = .returned (.tuple #[]) ∧ w = w') := by
 have D1 := Lib.hid d1; clear d1
 have D2 := Lib.hid d2; clear d2
 go_enter_d Tryz.func130, Tryz.ntmps130
 go_wp2_with fail
 refine (differ_is D1.out _).mono ?_
 rintro e w' ⟨rfl, rfl⟩
 go_wp2_with fail
 refine (differ_is D2.out _).mono ?_
 rintro e w' ⟨rfl, rfl⟩
 go_wp2_with fail
 go_end0
 exact ⟨rfl, rfl⟩

set_option maxHeartbeats 400000 in
theorem sub_out (a b : Int) (w : World) (ha : -9223372036854775808 ≤ a) (ha' : a ≤ 9223372036854775807) (hb : -9223372036854775808 ≤ b) (hb' : b ≤ 9223372036854775807) (h : ¬ (-9223372036854775808 ≤ a - b ∧ a - b ≤ 9223372036854775807)) :
 Calls Tryz.prog 84 #[.int .i64 a, .int .i64 b] w fun e w' => e = .returned (two 0 15) ∧ Below w.heap.size w w' := by
 have hmf : ∀ (fn : Fn) (first cap : Array Value) (w : World), (Instr.makeFunc fn first cap).run Tryz.prog w = .ok (.func fn first cap) w := fun _ _ _ _ => rfl
 have hd1 : differB a b = true := differB_true (by omega)
 have hd2 : differB a (wrap64 (a - b)) = true := differB_true (by unfold wrap64; omega)
 have D1 := Lib.hid hd1; clear hd1
 have D2 := Lib.hid hd2; clear hd2
 clear h ha ha' hb hb'
 go_enter_defers Tryz.func84, Tryz.ntmps84
 go_wp2
 refine leaves_cons (f := 130) (args := #[.pointer (some ⟨w.heap.size, 0, none⟩), .pointer (some ⟨w.heap.size + 1, 0, none⟩), .pointer (some ⟨w.heap.size + 1 + 1, 0, none⟩), .pointer (some ⟨w.heap.size + 1 + 1 + 1, 0, none⟩)]) (by simp) (by simp [go_sem]) ?_
 refine (sub_over ⟨w.heap.size, 0, none⟩ ⟨w.heap.size + 1, 0, none⟩ ⟨w.heap.size + 1 + 1, 0, none⟩ ⟨w.heap.size + 1 + 1 + 1, 0, none⟩ a b (wrap64 (a - b)) _ _ (by simp [go_sem]) (by simp [go_sem]) (by simp [go_sem]) (by simp [go_sem]) (by simp [go_sem]) (by simp [go_sem]) D1.out D2.out).mono ?_
 rintro e u' w'' ⟨rfl, rfl, rfl⟩
 simp [Leaves, settle, results, Tryz.results84, go_sem]
 exact below4 _ _ _ _ _

set_option maxHeartbeats 400000 in
theorem sub_in (a b : Int) (w : World) (hr : -9223372036854775808 ≤ a - b) (hr' : a - b ≤ 9223372036854775807) (ha : -9223372036854775808 ≤ a) (ha' : a ≤ 9223372036854775807) (hb : -9223372036854775808 ≤ b) (hb' : b ≤ 9223372036854775807) :
 Calls Tryz.prog 84 #[.int .i64 a, .int .i64 b] w fun e w' => e = .returned (two (a - b) 0) ∧ Below w.heap.size w w' := by
 have hmf : ∀ (fn : Fn) (first cap : Array Value) (w : World), (Instr.makeFunc fn first cap).run Tryz.prog w = .ok (.func fn first cap) w := fun _ _ _ _ => rfl
 have hd : differB a b = false ∨ (differB a b = true ∧ differB a (a - b) = false) := by
  cases d : differB a b with
  | false => exact .inl rfl
  | true => exact .inr ⟨rfl, differB_false (by have := of_differB d; omega)⟩
 clear ha ha' hb hb'
 rcases hd with hd | ⟨hd1, hd2⟩
 ·have D1 := Lib.hid hd; clear hd
  go_enter_defers Tryz.func84, Tryz.ntmps84
  go_wp2
  refine leaves_cons (f := 130) (args := #[.pointer (some ⟨w.heap.size, 0, none⟩), .pointer (some ⟨w.heap.size + 1, 0, none⟩), .pointer (some ⟨w.heap.size + 1 + 1, 0, none⟩), .pointer (some ⟨w.heap.size + 1 + 1 + 1, 0, none⟩)]) (by simp) (by simp [go_sem]) ?_
  refine (sub_fits1 ⟨w.heap.size, 0, none⟩ ⟨w.heap.size + 1, 0, none⟩ ⟨w.heap.size + 1 + 1, 0, none⟩ ⟨w.heap.size + 1 + 1 + 1, 0, none⟩ a b (a - b) _ _ (by simp [go_sem]) (by simp [go_sem]) (by simp [go_sem]) D1.out).mono ?_
  rintro e u' w'' ⟨rfl, rfl, rfl⟩
  simp [Leaves, settle, results, Tryz.results84, go_sem]
  exact below4 _ _ _ _ _
 ·have D1 := Lib.hid hd1; clear hd1
  have D2 := Lib.hid hd2; clear hd2
  go_enter_defers Tryz.func84, Tryz.ntmps84
  go_wp2
  refine leaves_cons (f := 130) (args := #[.pointer (some ⟨w.heap.size, 0, none⟩), .pointer (some ⟨w.heap.size + 1, 0, none⟩), .pointer (some ⟨w.heap.size + 1 + 1, 0, none⟩), .pointer (some ⟨w.heap.size + 1 + 1 + 1, 0, none⟩)]) (by simp) (by simp [go_sem]) ?_
  refine (sub_fits2 ⟨w.heap.size, 0, none⟩ ⟨w.heap.size + 1, 0, none⟩ ⟨w.heap.size + 1 + 1, 0, none⟩ ⟨w.heap.size + 1 + 1 + 1, 0, none⟩ a b (a - b) _ _ (by simp [go_sem]) (by simp [go_sem]) (by simp [go_sem]) D1.out D2.out).mono ?_
  rintro e u' w'' ⟨rfl, rfl, rfl⟩
  simp [Leaves, settle, results, Tryz.results84, go_sem]
  exact below4 _ _ _ _ _
end Go.Proofs.YtndjcmclmhoigaaGreatDoor
namespace Go.Proofs.YtndjcmclmhoigaaGreatDoor
open Go.RowKit
set_option maxRecDepth 100000

theorem infoPe : (Tryz.prog.info? 106).map (·.size) = some 4 := by kernel_rfl
set_option maxHeartbeats 8000000 in
theorem dLen_ok {r : Rn} {n e : Int} (hr : r.In) (hc : chkR r = 0) (hn : lenN r = n) (he : lenC r = e) (w : World) (hL : LaidEn w) :
 Calls Tryz.prog 31 #[.agg #[.int .i8 r.f, .int .i64 r.d, .int .i8 r.g, .int .i64 r.e]] w fun x w' => x = .returned (.tuple #[.int .i64 n, .int .i64 e]) ∧ Below w.heap.size w w' := by
 have HA := Kp.mk (rg_new r 26 (Below.refl w.heap.size w))
 have HB := Kp.mk (bl_of HA.out)
 have r1 : Kp (∀ u, Below w.heap.size w u → Calls Tryz.prog 15 #[.agg #[.int .i8 r.f, .int .i64 r.d, .int .i8 r.g, .int .i64 r.e]] u fun e w' => e = .returned (.int .i64 0) ∧ Below u.heap.size u w') := Kp.mk (fun u hw => dRChk_is hr hc u (hL.below hw))
 have hk := (chkR_zero hr).1 hc
 have d0 := hr.d0
 have d1 := hr.d1
 have e0 := hr.e0
 have e1 := hr.e1
 have hle := hk.le
 clear hk hr hc hL
 by_cases h1 : r.f = 0
 ·have t1 : (r.f != 0) = false := by rw [bne_eq_false_iff_eq]; exact h1
  by_cases h2 : r.g = 0
  ·have t2 : (r.g != 0) = false := by rw [bne_eq_false_iff_eq]; exact h2
   have hle := hle h1 h2
   unfold lenN at hn
   unfold lenC at he
   rw [if_pos ⟨h1, h2⟩] at he
   obtain ⟨s, hs⟩ : ∃ s, r.e - r.d = s := ⟨_, rfl⟩
   by_cases h3 : r.e - r.d ≤ 9223372036854775807
   ·have q2 := fun u => sub_in r.e r.d u (by omega) h3 e0 e1 d0 d1
    rw [hs] at q2
    have r2 : Kp (∀ u, Below w.heap.size w u → Calls Tryz.prog 84 #[.int .i64 r.e, .int .i64 r.d] u fun e w' => e = .returned (.tuple #[.int .i64 s, .int .i64 0]) ∧ Below u.heap.size u w') := Kp.mk (fun u hw => q2 u)
    by_cases h4 : s + 1 ≤ 9223372036854775807
    ·rw [if_pos ⟨h1, h2, by omega⟩] at hn
     rw [if_pos (by omega)] at he
     subst he
     have q3 := fun u => add_in s 1 u (by omega) h4 (by omega) (by omega) (by omega) (by omega)
     rw [show s + 1 = n by omega] at q3
     have r3 : Kp (∀ u, Below w.heap.size w u → Calls Tryz.prog 85 #[.int .i64 s, .int .i64 1] u fun e w' => e = .returned (.tuple #[.int .i64 n, .int .i64 0]) ∧ Below u.heap.size u w') := Kp.mk (fun u hw => q3 u)
     clear hn h1 h2 h3 h4 hs q2 q3 hle d0 d1 e0 e1
     go_enter Tryz.func31, Tryz.ntmps31
     go_upto_region 1 with fail
     generalize (w.alloc (.cells #[.int .i8 r.f, .int .i64 r.d, .int .i8 r.g, .int .i64 r.e] 26)) = w0 at *
     have kHA0 := HA.out.c0
     have kHA1 := HA.out.c1
     have kHA2 := HA.out.c2
     have kHA3 := HA.out.c3
     go_wp2_with fail
     refine (r1.out _ HB.out.below).mono ?_
     rintro e u1 ⟨rfl, hbl⟩
     clear kHA0 kHA1 kHA2 kHA3
     have HB := Kp.mk (HB.out.step hbl)
     have HA := Kp.mk (HA.out.step hbl)
     clear hbl
     have kHA0 := HA.out.c0
     have kHA1 := HA.out.c1
     have kHA2 := HA.out.c2
     have kHA3 := HA.out.c3
     go_wp2_with fail
     refine (r2.out _ HB.out.below).mono ?_
     rintro e u2 ⟨rfl, hbl⟩
     clear kHA0 kHA1 kHA2 kHA3
     have HB := Kp.mk (HB.out.step hbl)
     have HA := Kp.mk (HA.out.step hbl)
     clear hbl
     have kHA0 := HA.out.c0
     have kHA1 := HA.out.c1
     have kHA2 := HA.out.c2
     have kHA3 := HA.out.c3
     go_wp2_with fail
     refine (r3.out _ HB.out.below).mono ?_
     rintro e u3 ⟨rfl, hbl⟩
     clear kHA0 kHA1 kHA2 kHA3
     have HB := Kp.mk (HB.out.step hbl)
     have HA := Kp.mk (HA.out.step hbl)
     clear hbl
     have kHA0 := HA.out.c0
     have kHA1 := HA.out.c1
     have kHA2 := HA.out.c2
     have kHA3 := HA.out.c3
     go_wp2_with fail
     go_ret2
     exact ⟨rfl, HB.out.below⟩
    ·rw [if_neg (fun q => by omega)] at hn
     rw [if_neg (by omega)] at he
     subst he hn
     have q3 := fun u => add_out s 1 u (by omega) (by omega) (by omega) (by omega) (by omega)
     have r3 : Kp (∀ u, Below w.heap.size w u → Calls Tryz.prog 85 #[.int .i64 s, .int .i64 1] u fun e w' => e = .returned (.tuple #[.int .i64 0, .int .i64 15]) ∧ Below u.heap.size u w') := Kp.mk (fun u hw => q3 u)
     clear h1 h2 h3 h4 hs q2 q3 hle d0 d1 e0 e1
     go_enter Tryz.func31, Tryz.ntmps31
     go_upto_region 1 with fail
     generalize (w.alloc (.cells #[.int .i8 r.f, .int .i64 r.d, .int .i8 r.g, .int .i64 r.e] 26)) = w0 at *
     have kHA0 := HA.out.c0
     have kHA1 := HA.out.c1
     have kHA2 := HA.out.c2
     have kHA3 := HA.out.c3
     go_wp2_with fail
     refine (r1.out _ HB.out.below).mono ?_
     rintro e u1 ⟨rfl, hbl⟩
     clear kHA0 kHA1 kHA2 kHA3
     have HB := Kp.mk (HB.out.step hbl)
     have HA := Kp.mk (HA.out.step hbl)
     clear hbl
     have kHA0 := HA.out.c0
     have kHA1 := HA.out.c1
     have kHA2 := HA.out.c2
     have kHA3 := HA.out.c3
     go_wp2_with fail
     refine (r2.out _ HB.out.below).mono ?_
     rintro e u2 ⟨rfl, hbl⟩
     clear kHA0 kHA1 kHA2 kHA3
     have HB := Kp.mk (HB.out.step hbl)
     have HA := Kp.mk (HA.out.step hbl)
     clear hbl
     have kHA0 := HA.out.c0
     have kHA1 := HA.out.c1
     have kHA2 := HA.out.c2
     have kHA3 := HA.out.c3
     go_wp2_with fail
     refine (r3.out _ HB.out.below).mono ?_
     rintro e u3 ⟨rfl, hbl⟩
     clear kHA0 kHA1 kHA2 kHA3
     have HB := Kp.mk (HB.out.step hbl)
     have HA := Kp.mk (HA.out.step hbl)
     clear hbl
     have kHA0 := HA.out.c0
     have kHA1 := HA.out.c1
     have kHA2 := HA.out.c2
     have kHA3 := HA.out.c3
     go_wp2_with fail
     go_ret2
     exact ⟨rfl, HB.out.below⟩
   ·rw [if_neg (fun q => by omega)] at hn
    rw [if_neg (by omega)] at he
    subst he hn
    have q2 := fun u => sub_out r.e r.d u e0 e1 d0 d1 (by omega)
    have r2 : Kp (∀ u, Below w.heap.size w u → Calls Tryz.prog 84 #[.int .i64 r.e, .int .i64 r.d] u fun e w' => e = .returned (.tuple #[.int .i64 0, .int .i64 15]) ∧ Below u.heap.size u w') := Kp.mk (fun u hw => q2 u)
    clear h1 h2 h3 hs q2 hle d0 d1 e0 e1
    go_enter Tryz.func31, Tryz.ntmps31
    go_upto_region 1 with fail
    generalize (w.alloc (.cells #[.int .i8 r.f, .int .i64 r.d, .int .i8 r.g, .int .i64 r.e] 26)) = w0 at *
    have kHA0 := HA.out.c0
    have kHA1 := HA.out.c1
    have kHA2 := HA.out.c2
    have kHA3 := HA.out.c3
    go_wp2_with fail
    refine (r1.out _ HB.out.below).mono ?_
    rintro e u1 ⟨rfl, hbl⟩
    clear kHA0 kHA1 kHA2 kHA3
    have HB := Kp.mk (HB.out.step hbl)
    have HA := Kp.mk (HA.out.step hbl)
    clear hbl
    have kHA0 := HA.out.c0
    have kHA1 := HA.out.c1
    have kHA2 := HA.out.c2
    have kHA3 := HA.out.c3
    go_wp2_with fail
    refine (r2.out _ HB.out.below).mono ?_
    rintro e u2 ⟨rfl, hbl⟩
    clear kHA0 kHA1 kHA2 kHA3
    have HB := Kp.mk (HB.out.step hbl)
    have HA := Kp.mk (HA.out.step hbl)
    clear hbl
    have kHA0 := HA.out.c0
    have kHA1 := HA.out.c1
    have kHA2 := HA.out.c2
    have kHA3 := HA.out.c3
    go_wp2_with fail
    go_ret2
    exact ⟨rfl, HB.out.below⟩
  ·have t2 : (r.g != 0) = true := by rw [bne_iff_ne]; exact h2
   obtain rfl : 0 = n := by rw [← hn]; unfold lenN; rw [if_neg (fun q => h2 q.2.1)]
   obtain rfl : 16 = e := by rw [← he]; unfold lenC; rw [if_neg (fun q => h2 q.2)]
   clear hn he h1 h2 hle d0 d1 e0 e1
   go_enter Tryz.func31, Tryz.ntmps31
   go_upto_region 1 with fail
   generalize (w.alloc (.cells #[.int .i8 r.f, .int .i64 r.d, .int .i8 r.g, .int .i64 r.e] 26)) = w0 at *
   have kHA0 := HA.out.c0
   have kHA1 := HA.out.c1
   have kHA2 := HA.out.c2
   have kHA3 := HA.out.c3
   go_wp2_with fail
   refine (r1.out _ HB.out.below).mono ?_
   rintro e u1 ⟨rfl, hbl⟩
   clear kHA0 kHA1 kHA2 kHA3
   have HB := Kp.mk (HB.out.step hbl)
   have HA := Kp.mk (HA.out.step hbl)
   clear hbl
   have kHA0 := HA.out.c0
   have kHA1 := HA.out.c1
   have kHA2 := HA.out.c2
   have kHA3 := HA.out.c3
   go_wp2_with fail
   go_ret2
   exact ⟨rfl, HB.out.below⟩
 ·have t1 : (r.f != 0) = true := by rw [bne_iff_ne]; exact h1
  obtain rfl : 0 = n := by rw [← hn]; unfold lenN; rw [if_neg (fun q => h1 q.1)]
  obtain rfl : 16 = e := by rw [← he]; unfold lenC; rw [if_neg (fun q => h1 q.1)]
  clear hn he h1 hle d0 d1 e0 e1
  go_enter Tryz.func31, Tryz.ntmps31
  go_upto_region 1 with fail
  generalize (w.alloc (.cells #[.int .i8 r.f, .int .i64 r.d, .int .i8 r.g, .int .i64 r.e] 26)) = w0 at *
  have kHA0 := HA.out.c0
  have kHA1 := HA.out.c1
  have kHA2 := HA.out.c2
  have kHA3 := HA.out.c3
  go_wp2_with fail
  refine (r1.out _ HB.out.below).mono ?_
  rintro e u1 ⟨rfl, hbl⟩
  clear kHA0 kHA1 kHA2 kHA3
  have HB := Kp.mk (HB.out.step hbl)
  have HA := Kp.mk (HA.out.step hbl)
  clear hbl
  have kHA0 := HA.out.c0
  have kHA1 := HA.out.c1
  have kHA2 := HA.out.c2
  have kHA3 := HA.out.c3
  go_wp2_with fail
  go_ret2
  exact ⟨rfl, HB.out.below⟩
set_option maxHeartbeats 8000000 in
theorem dRight_ok {r : Rn} (hr : r.In) (hc : chkR r = 0) (w : World) (hL : LaidEn w) :
 Calls Tryz.prog 91 #[.agg #[.int .i8 r.f, .int .i64 r.d, .int .i8 r.g, .int .i64 r.e]] w fun x w' => x = .returned (.tuple #[.agg #[.int .i8 r.f, .int .i64 r.d, .int .i8 r.g, .int .i64 r.e], .int .i64 0]) ∧ Below w.heap.size w w' := by
 obtain ⟨h1, h2⟩ := ob_two w #[.int .i8 r.f, .int .i64 r.d, .int .i8 r.g, .int .i64 r.e] #[.int .i8 0, .int .i64 0, .int .i8 0, .int .i64 0] 26 26
 have HA := Kp.mk h1.rg
 have HR := Kp.mk h2
 have HB := Kp.mk (Bl.mk h1.below)
 clear h1 h2
 have r1 : Kp (∀ u, Below w.heap.size w u → Calls Tryz.prog 15 #[.agg #[.int .i8 r.f, .int .i64 r.d, .int .i8 r.g, .int .i64 r.e]] u fun e w' => e = .returned (.int .i64 0) ∧ Below u.heap.size u w') := Kp.mk (fun u hw => dRChk_is hr hc u (hL.below hw))
 clear hr hc hL
 go_enter Tryz.func91, Tryz.ntmps91
 go_upto_region 1 with fail
 generalize (w.alloc (.cells #[.int .i8 r.f, .int .i64 r.d, .int .i8 r.g, .int .i64 r.e] 26)).alloc (.cells #[.int .i8 0, .int .i64 0, .int .i8 0, .int .i64 0] 26) = w0 at *
 have kHA0 := HA.out.c0
 have kHA1 := HA.out.c1
 have kHA2 := HA.out.c2
 have kHA3 := HA.out.c3
 go_wp2_with fail
 refine (r1.out _ HB.out.below).mono ?_
 rintro e u1 ⟨rfl, hbl⟩
 clear kHA0 kHA1 kHA2 kHA3
 have HB := Kp.mk (HB.out.step hbl)
 have HA := Kp.mk (HA.out.step hbl)
 have HR := Kp.mk (HR.out.step hbl)
 clear hbl
 have kHA0 := HA.out.c0
 have kHA1 := HA.out.c1
 have kHA2 := HA.out.c2
 have kHA3 := HA.out.c3
 go_wp2_with (first
  | refine wpList_store_row' rfl 26 (.tmp 2) (.tmp 11) rfl (w.heap.size + 1) #[.int .i8 r.f, .int .i64 r.d, .int .i8 r.g, .int .i64 r.e] rfl rfl 26 #[.int .i8 0, .int .i64 0, .int .i8 0, .int .i64 0] HR.out.heap infoRn rfl (four_rn _ _ _ _) ?_)
 refine bodyPost_ret (results_cell_tmp (p := 2) (ty := 26) rfl _ _ (w.heap.size + 1) 26 #[.int .i8 r.f, .int .i64 r.d, .int .i8 r.g, .int .i64 r.e] (0, 0) _ rfl (setRow_heap _ _ _ _ _ _ HR.out.heap) Tryz.underlying26 rfl infoRn) rfl ?_
 exact ⟨rfl, below_setRow HR.out.below HR.out.base _⟩
set_option maxHeartbeats 8000000 in
theorem dRight_bad {r : Rn} {c : Int} (hr : r.In) (hc : chkR r = c) (h0 : ¬ c = 0) (w : World) (hL : LaidEn w) :
 Calls Tryz.prog 91 #[.agg #[.int .i8 r.f, .int .i64 r.d, .int .i8 r.g, .int .i64 r.e]] w fun x w' => x = .returned (.tuple #[.agg #[.int .i8 0, .int .i64 0, .int .i8 0, .int .i64 0], .int .i64 c]) ∧ Below w.heap.size w w' := by
 obtain ⟨h1, h2⟩ := ob_two w #[.int .i8 r.f, .int .i64 r.d, .int .i8 r.g, .int .i64 r.e] #[.int .i8 0, .int .i64 0, .int .i8 0, .int .i64 0] 26 26
 have HA := Kp.mk h1.rg
 have HR := Kp.mk h2
 have HB := Kp.mk (Bl.mk h1.below)
 clear h1 h2
 have r1 : Kp (∀ u, Below w.heap.size w u → Calls Tryz.prog 15 #[.agg #[.int .i8 r.f, .int .i64 r.d, .int .i8 r.g, .int .i64 r.e]] u fun e w' => e = .returned (.int .i64 c) ∧ Below u.heap.size u w') := Kp.mk (fun u hw => dRChk_is hr hc u (hL.below hw))
 have t1 : (c != 0) = true := by rw [bne_iff_ne]; exact h0
 clear hr hc h0 hL
 go_enter Tryz.func91, Tryz.ntmps91
 go_upto_region 1 with fail
 generalize (w.alloc (.cells #[.int .i8 r.f, .int .i64 r.d, .int .i8 r.g, .int .i64 r.e] 26)).alloc (.cells #[.int .i8 0, .int .i64 0, .int .i8 0, .int .i64 0] 26) = w0 at *
 have kHA0 := HA.out.c0
 have kHA1 := HA.out.c1
 have kHA2 := HA.out.c2
 have kHA3 := HA.out.c3
 go_wp2_with fail
 refine (r1.out _ HB.out.below).mono ?_
 rintro e u1 ⟨rfl, hbl⟩
 clear kHA0 kHA1 kHA2 kHA3
 have HB := Kp.mk (HB.out.step hbl)
 have HA := Kp.mk (HA.out.step hbl)
 have HR := Kp.mk (HR.out.step hbl)
 clear hbl
 have kHA0 := HA.out.c0
 have kHA1 := HA.out.c1
 have kHA2 := HA.out.c2
 have kHA3 := HA.out.c3
 go_wp2_with (first
  | refine wpList_store_row' rfl 26 (.tmp 2) (.tmp 9) rfl (w.heap.size + 1) #[.int .i8 0, .int .i64 0, .int .i8 0, .int .i64 0] rfl rfl 26 #[.int .i8 0, .int .i64 0, .int .i8 0, .int .i64 0] HR.out.heap infoRn rfl (four_rn _ _ _ _) ?_)
 refine bodyPost_ret (results_cell_tmp (p := 2) (ty := 26) rfl _ _ (w.heap.size + 1) 26 #[.int .i8 0, .int .i64 0, .int .i8 0, .int .i64 0] (0, 0) _ rfl (setRow_heap _ _ _ _ _ _ HR.out.heap) Tryz.underlying26 rfl infoRn) rfl ?_
 exact ⟨rfl, below_setRow HR.out.below HR.out.base _⟩
set_option maxHeartbeats 8000000 in
theorem dEnds_is (r : Rn) (w : World) :
 Calls Tryz.prog 87 #[.agg #[.int .i8 r.f, .int .i64 r.d, .int .i8 r.g, .int .i64 r.e]] w fun x w' => x = .returned (.agg #[.int .i8 r.f, .int .i64 r.d, .int .i8 r.g, .int .i64 r.e]) ∧ Below w.heap.size w w' := by
 obtain ⟨h1, h2⟩ := ob_two w #[.int .i8 r.f, .int .i64 r.d, .int .i8 r.g, .int .i64 r.e] #[.int .i8 0, .int .i64 0, .int .i8 0, .int .i64 0] 26 106
 have HA := Kp.mk h1.rg
 have HR := Kp.mk h2
 have HB := Kp.mk (Bl.mk h1.below)
 clear h1 h2
 go_enter Tryz.func87, Tryz.ntmps87
 go_upto_region 1 with fail
 generalize (w.alloc (.cells #[.int .i8 r.f, .int .i64 r.d, .int .i8 r.g, .int .i64 r.e] 26)).alloc (.cells #[.int .i8 0, .int .i64 0, .int .i8 0, .int .i64 0] 106) = w0 at *
 have kHA0 := HA.out.c0
 have kHA1 := HA.out.c1
 have kHA2 := HA.out.c2
 have kHA3 := HA.out.c3
 go_wp2_with (first
  | refine wpList_store_row' rfl 106 (.tmp 2) (.tmp 7) rfl (w.heap.size + 1) #[.int .i8 r.f, .int .i64 r.d, .int .i8 r.g, .int .i64 r.e] rfl rfl 106 #[.int .i8 0, .int .i64 0, .int .i8 0, .int .i64 0] HR.out.heap infoPe rfl (four_rn _ _ _ _) ?_)
 refine bodyPost_ret (results_cell_row (p := 2) (ty := 106) rfl _ _ (w.heap.size + 1) 106 #[.int .i8 r.f, .int .i64 r.d, .int .i8 r.g, .int .i64 r.e] (0, 0) _ rfl (setRow_heap _ _ _ _ _ _ HR.out.heap) Tryz.underlying106 rfl infoPe) rfl ?_
 exact ⟨rfl, below_setRow HR.out.below HR.out.base _⟩
set_option maxHeartbeats 8000000 in
theorem dRun_is (r : Rn) (w : World) :
 Calls Tryz.prog 90 #[.agg #[.int .i8 r.f, .int .i64 r.d, .int .i8 r.g, .int .i64 r.e]] w fun x w' => x = .returned (.agg #[.int .i8 r.f, .int .i64 r.d, .int .i8 r.g, .int .i64 r.e]) ∧ Below w.heap.size w w' := by
 obtain ⟨h1, h2⟩ := ob_two w #[.int .i8 r.f, .int .i64 r.d, .int .i8 r.g, .int .i64 r.e] #[.int .i8 0, .int .i64 0, .int .i8 0, .int .i64 0] 106 26
 have HA := Kp.mk h1.rg
 have HR := Kp.mk h2
 have HB := Kp.mk (Bl.mk h1.below)
 clear h1 h2
 go_enter Tryz.func90, Tryz.ntmps90
 go_upto_region 1 with fail
 generalize (w.alloc (.cells #[.int .i8 r.f, .int .i64 r.d, .int .i8 r.g, .int .i64 r.e] 106)).alloc (.cells #[.int .i8 0, .int .i64 0, .int .i8 0, .int .i64 0] 26) = w0 at *
 have kHA0 := HA.out.c0
 have kHA1 := HA.out.c1
 have kHA2 := HA.out.c2
 have kHA3 := HA.out.c3
 go_wp2_with (first
  | refine wpList_store_row' rfl 26 (.tmp 2) (.tmp 7) rfl (w.heap.size + 1) #[.int .i8 r.f, .int .i64 r.d, .int .i8 r.g, .int .i64 r.e] rfl rfl 26 #[.int .i8 0, .int .i64 0, .int .i8 0, .int .i64 0] HR.out.heap infoRn rfl (four_rn _ _ _ _) ?_)
 refine bodyPost_ret (results_cell_row (p := 2) (ty := 26) rfl _ _ (w.heap.size + 1) 26 #[.int .i8 r.f, .int .i64 r.d, .int .i8 r.g, .int .i64 r.e] (0, 0) _ rfl (setRow_heap _ _ _ _ _ _ HR.out.heap) Tryz.underlying26 rfl infoRn) rfl ?_
 exact ⟨rfl, below_setRow HR.out.below HR.out.base _⟩
end Go.Proofs.YtndjcmclmhoigaaGreatDoor
