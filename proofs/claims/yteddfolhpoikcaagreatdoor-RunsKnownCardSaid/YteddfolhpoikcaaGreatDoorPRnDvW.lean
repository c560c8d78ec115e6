/-
 DERIVED. CONTRACTS of package runs (the developers' functions): Within, Has. Written by mkrnd3.py.
-/
import Derived.Test.YteddfolhpoikcaaGreatDoorPRnDvJ
namespace Go.Proofs.YteddfolhpoikcaaGreatDoor
open Go.RowKit
set_option maxRecDepth 100000

theorem comm_within {a b v : Rn} (ha : a.Ok) (hb : b.Ok) (hv : commN a b = v) : v = a ↔ b.lo ≤ a.lo ∧ a.hi ≤ b.hi := by
 obtain ⟨q0, q1, q2, q3⟩ := commN_f hv
 have p1 := ha.pos
 have p2 := hb.pos
 have p1l := p1.pl
 have p1h := p1.ph
 have p2l := p2.pl
 have p2h := p2.ph
 rw [cmp_lo ha hb] at q0 q1
 rw [cmp_hi ha hb] at q2 q3
 have e1 := cmpI_cases a.lo b.lo
 have e2 := cmpI_cases a.hi b.hi
 generalize cmpI a.lo b.lo = x at *
 generalize cmpI a.hi b.hi = y at *
 have key : v = a ↔ v.f = a.f ∧ v.d = a.d ∧ v.g = a.g ∧ v.e = a.e := by
  cases v; cases a; simp only [Rn.mk.injEq]
 rw [key]
 clear hv ha hb p1 p2 key
 rcases e1 with e1 | e1 | e1 <;> rcases e2 with e2 | e2 | e2 <;> simp only [e1.2, e2.2] at q0 q1 q2 q3 <;> simp at q0 q1 q2 q3 <;> constructor <;> intro h <;> omega
theorem inN_meet {a b : Rn} (ha : a.In) (h : inN a b = true) : meetN a b = true := by
 obtain ⟨h1, h2, h3, h4⟩ := of_decide_eq_true h
 have p1 := ((chkR_zero ha).1 h1).pos.le
 exact decide_eq_true ⟨h1, h2, by omega, by omega⟩
set_option maxHeartbeats 8000000 in
theorem dIn_is {a b : Rn} {v : Bool} (ha : a.In) (hb : b.In) (hv : inN a b = v) (w : World) (hL : LaidEn w) :
 Calls Tryz.prog 20 #[.agg #[.int .i8 a.f, .int .i64 a.d, .int .i8 a.g, .int .i64 a.e], .agg #[.int .i8 b.f, .int .i64 b.d, .int .i8 b.g, .int .i64 b.e]] w fun x w' => x = .returned (.bool v) ∧ Below w.heap.size w w' := by
 have HA := Kp.mk (rg_two w a b).1
 have HC := Kp.mk (rg_two w a b).2
 have HB := Kp.mk (bl_of HA.1)
 by_cases hm : meetN a b = true
 ·obtain ⟨c1, c2, _, _⟩ := of_decide_eq_true hm
  obtain ⟨c, hc⟩ : ∃ c, commN a b = c := ⟨_, rfl⟩
  have hj := comm_within ((chkR_zero ha).1 c1) ((chkR_zero hb).1 c2) hc
  have r1 : Kp (∀ u, Below w.heap.size w u → Calls Tryz.prog 15 #[rv a, rv b] u fun e w' => e = .returned (.tuple #[.agg #[.int .i8 c.f, .int .i64 c.d, .int .i8 c.g, .int .i64 c.e], .bool true]) ∧ Below u.heap.size u w') := Kp.mk (fun u hw => dComm_is ha hb hm hc u (hL.below hw))
  have hv' : decide (b.lo ≤ a.lo ∧ a.hi ≤ b.hi) = v := by rw [← hv]; unfold inN; rw [decide_eq_decide]; omega
  clear hv hc hL hm ha hb
  by_cases x0 : c.f = a.f
  ·have e0 : (c.f == a.f) = true := by rw [beq_iff_eq]; exact x0
   by_cases x1 : c.d = a.d
   ·have e1 : (c.d == a.d) = true := by rw [beq_iff_eq]; exact x1
    by_cases x2 : c.g = a.g
    ·have e2 : (c.g == a.g) = true := by rw [beq_iff_eq]; exact x2
     by_cases x3 : c.e = a.e
     ·have e3 : (c.e == a.e) = true := by rw [beq_iff_eq]; exact x3
      obtain rfl : true = v := by rw [← hv']; symm; rw [decide_eq_true_iff]; apply hj.1; cases c; cases a; simp only at x0 x1 x2 x3; rw [x0, x1, x2, x3]
      clear hj hv' c1 c2 x0 x1 x2 x3
      go_enter Tryz.func20, Tryz.ntmps20
      go_upto_region 1 with fail
      generalize ((w.alloc (.cells #[.int .i8 a.f, .int .i64 a.d, .int .i8 a.g, .int .i64 a.e] 26)).alloc (.cells #[.int .i8 b.f, .int .i64 b.d, .int .i8 b.g, .int .i64 b.e] 26)) = w0 at *
      obtain ⟨kHA0, kHA1, kHA2, kHA3⟩ := HA.1.cs
      obtain ⟨kHC0, kHC1, kHC2, kHC3⟩ := HC.1.cs
      go_wp2_with fail
      refine (r1.1 _ HB.1.below).mono ?_
      rintro e u1 ⟨rfl, hbl⟩
      clear kHA0 kHA1 kHA2 kHA3 kHC0 kHC1 kHC2 kHC3
      have HB := Kp.mk (HB.1.step hbl)
      have HA := Kp.mk (HA.1.step hbl)
      have HC := Kp.mk (HC.1.step hbl)
      clear hbl
      obtain ⟨kHA0, kHA1, kHA2, kHA3⟩ := HA.1.cs
      obtain ⟨kHC0, kHC1, kHC2, kHC3⟩ := HC.1.cs
      go_upto_region 2 with fail
      clear kHA0 kHA1 kHA2 kHA3 kHC0 kHC1 kHC2 kHC3
      have HX := Kp.mk (rg_new c 26 HB.1.below)
      have hbl := (Below.refl u1.heap.size u1).alloc (Nat.le_refl _) (.cells #[.int .i8 c.f, .int .i64 c.d, .int .i8 c.g, .int .i64 c.e] 26)
      have HB := Kp.mk (HB.1.step hbl)
      have HA := Kp.mk (HA.1.step hbl)
      have HC := Kp.mk (HC.1.step hbl)
      clear hbl
      generalize u1.alloc (.cells #[.int .i8 c.f, .int .i64 c.d, .int .i8 c.g, .int .i64 c.e] 26) = u2 at *
      generalize u1.heap.size = gx at *
      obtain ⟨kHA0, kHA1, kHA2, kHA3⟩ := HA.1.cs
      obtain ⟨kHC0, kHC1, kHC2, kHC3⟩ := HC.1.cs
      obtain ⟨kHX0, kHX1, kHX2, kHX3⟩ := HX.1.cs
      go_wp2_with fail
      go_ret
      exact ⟨rfl, HB.1.below⟩
     ·have e3 : (c.e == a.e) = false := by rw [beq_eq_false_iff_ne]; exact x3
      obtain rfl : false = v := by rw [← hv']; symm; rw [decide_eq_false_iff_not]; intro q; exact x3 (by rw [hj.2 q])
      clear hj hv' c1 c2 x0 x1 x2 x3
      go_enter Tryz.func20, Tryz.ntmps20
      go_upto_region 1 with fail
      generalize ((w.alloc (.cells #[.int .i8 a.f, .int .i64 a.d, .int .i8 a.g, .int .i64 a.e] 26)).alloc (.cells #[.int .i8 b.f, .int .i64 b.d, .int .i8 b.g, .int .i64 b.e] 26)) = w0 at *
      obtain ⟨kHA0, kHA1, kHA2, kHA3⟩ := HA.1.cs
      obtain ⟨kHC0, kHC1, kHC2, kHC3⟩ := HC.1.cs
      go_wp2_with fail
      refine (r1.1 _ HB.1.below).mono ?_
      rintro e u1 ⟨rfl, hbl⟩
      clear kHA0 kHA1 kHA2 kHA3 kHC0 kHC1 kHC2 kHC3
      have HB := Kp.mk (HB.1.step hbl)
      have HA := Kp.mk (HA.1.step hbl)
      have HC := Kp.mk (HC.1.step hbl)
      clear hbl
      obtain ⟨kHA0, kHA1, kHA2, kHA3⟩ := HA.1.cs
      obtain ⟨kHC0, kHC1, kHC2, kHC3⟩ := HC.1.cs
      go_upto_region 2 with fail
      clear kHA0 kHA1 kHA2 kHA3 kHC0 kHC1 kHC2 kHC3
      have HX := Kp.mk (rg_new c 26 HB.1.below)
      have hbl := (Below.refl u1.heap.size u1).alloc (Nat.le_refl _) (.cells #[.int .i8 c.f, .int .i64 c.d, .int .i8 c.g, .int .i64 c.e] 26)
      have HB := Kp.mk (HB.1.step hbl)
      have HA := Kp.mk (HA.1.step hbl)
      have HC := Kp.mk (HC.1.step hbl)
      clear hbl
      generalize u1.alloc (.cells #[.int .i8 c.f, .int .i64 c.d, .int .i8 c.g, .int .i64 c.e] 26) = u2 at *
      generalize u1.heap.size = gx at *
      obtain ⟨kHA0, kHA1, kHA2, kHA3⟩ := HA.1.cs
      obtain ⟨kHC0, kHC1, kHC2, kHC3⟩ := HC.1.cs
      obtain ⟨kHX0, kHX1, kHX2, kHX3⟩ := HX.1.cs
      go_wp2_with fail
      go_ret
      exact ⟨rfl, HB.1.below⟩
    ·have e2 : (c.g == a.g) = false := by rw [beq_eq_false_iff_ne]; exact x2
     obtain rfl : false = v := by rw [← hv']; symm; rw [decide_eq_false_iff_not]; intro q; exact x2 (by rw [hj.2 q])
     clear hj hv' c1 c2 x0 x1 x2
     go_enter Tryz.func20, Tryz.ntmps20
     go_upto_region 1 with fail
     generalize ((w.alloc (.cells #[.int .i8 a.f, .int .i64 a.d, .int .i8 a.g, .int .i64 a.e] 26)).alloc (.cells #[.int .i8 b.f, .int .i64 b.d, .int .i8 b.g, .int .i64 b.e] 26)) = w0 at *
     obtain ⟨kHA0, kHA1, kHA2, kHA3⟩ := HA.1.cs
     obtain ⟨kHC0, kHC1, kHC2, kHC3⟩ := HC.1.cs
     go_wp2_with fail
     refine (r1.1 _ HB.1.below).mono ?_
     rintro e u1 ⟨rfl, hbl⟩
     clear kHA0 kHA1 kHA2 kHA3 kHC0 kHC1 kHC2 kHC3
     have HB := Kp.mk (HB.1.step hbl)
     have HA := Kp.mk (HA.1.step hbl)
     have HC := Kp.mk (HC.1.step hbl)
     clear hbl
     obtain ⟨kHA0, kHA1, kHA2, kHA3⟩ := HA.1.cs
     obtain ⟨kHC0, kHC1, kHC2, kHC3⟩ := HC.1.cs
     go_upto_region 2 with fail
     clear kHA0 kHA1 kHA2 kHA3 kHC0 kHC1 kHC2 kHC3
     have HX := Kp.mk (rg_new c 26 HB.1.below)
     have hbl := (Below.refl u1.heap.size u1).alloc (Nat.le_refl _) (.cells #[.int .i8 c.f, .int .i64 c.d, .int .i8 c.g, .int .i64 c.e] 26)
     have HB := Kp.mk (HB.1.step hbl)
     have HA := Kp.mk (HA.1.step hbl)
     have HC := Kp.mk (HC.1.step hbl)
     clear hbl
     generalize u1.alloc (.cells #[.int .i8 c.f, .int .i64 c.d, .int .i8 c.g, .int .i64 c.e] 26) = u2 at *
     generalize u1.heap.size = gx at *
     obtain ⟨kHA0, kHA1, kHA2, kHA3⟩ := HA.1.cs
     obtain ⟨kHC0, kHC1, kHC2, kHC3⟩ := HC.1.cs
     obtain ⟨kHX0, kHX1, kHX2, kHX3⟩ := HX.1.cs
     go_wp2_with fail
     go_ret
     exact ⟨rfl, HB.1.below⟩
   ·have e1 : (c.d == a.d) = false := by rw [beq_eq_false_iff_ne]; exact x1
    obtain rfl : false = v := by rw [← hv']; symm; rw [decide_eq_false_iff_not]; intro q; exact x1 (by rw [hj.2 q])
    clear hj hv' c1 c2 x0 x1
    go_enter Tryz.func20, Tryz.ntmps20
    go_upto_region 1 with fail
    generalize ((w.alloc (.cells #[.int .i8 a.f, .int .i64 a.d, .int .i8 a.g, .int .i64 a.e] 26)).alloc (.cells #[.int .i8 b.f, .int .i64 b.d, .int .i8 b.g, .int .i64 b.e] 26)) = w0 at *
    obtain ⟨kHA0, kHA1, kHA2, kHA3⟩ := HA.1.cs
    obtain ⟨kHC0, kHC1, kHC2, kHC3⟩ := HC.1.cs
    go_wp2_with fail
    refine (r1.1 _ HB.1.below).mono ?_
    rintro e u1 ⟨rfl, hbl⟩
    clear kHA0 kHA1 kHA2 kHA3 kHC0 kHC1 kHC2 kHC3
    have HB := Kp.mk (HB.1.step hbl)
    have HA := Kp.mk (HA.1.step hbl)
    have HC := Kp.mk (HC.1.step hbl)
    clear hbl
    obtain ⟨kHA0, kHA1, kHA2, kHA3⟩ := HA.1.cs
    obtain ⟨kHC0, kHC1, kHC2, kHC3⟩ := HC.1.cs
    go_upto_region 2 with fail
    clear kHA0 kHA1 kHA2 kHA3 kHC0 kHC1 kHC2 kHC3
    have HX := Kp.mk (rg_new c 26 HB.1.below)
    have hbl := (Below.refl u1.heap.size u1).alloc (Nat.le_refl _) (.cells #[.int .i8 c.f, .int .i64 c.d, .int .i8 c.g, .int .i64 c.e] 26)
    have HB := Kp.mk (HB.1.step hbl)
    have HA := Kp.mk (HA.1.step hbl)
    have HC := Kp.mk (HC.1.step hbl)
    clear hbl
    generalize u1.alloc (.cells #[.int .i8 c.f, .int .i64 c.d, .int .i8 c.g, .int .i64 c.e] 26) = u2 at *
    generalize u1.heap.size = gx at *
    obtain ⟨kHA0, kHA1, kHA2, kHA3⟩ := HA.1.cs
    obtain ⟨kHC0, kHC1, kHC2, kHC3⟩ := HC.1.cs
    obtain ⟨kHX0, kHX1, kHX2, kHX3⟩ := HX.1.cs
    go_wp2_with fail
    go_ret
    exact ⟨rfl, HB.1.below⟩
  ·have e0 : (c.f == a.f) = false := by rw [beq_eq_false_iff_ne]; exact x0
   obtain rfl : false = v := by rw [← hv']; symm; rw [decide_eq_false_iff_not]; intro q; exact x0 (by rw [hj.2 q])
   clear hj hv' c1 c2 x0
   go_enter Tryz.func20, Tryz.ntmps20
   go_upto_region 1 with fail
   generalize ((w.alloc (.cells #[.int .i8 a.f, .int .i64 a.d, .int .i8 a.g, .int .i64 a.e] 26)).alloc (.cells #[.int .i8 b.f, .int .i64 b.d, .int .i8 b.g, .int .i64 b.e] 26)) = w0 at *
   obtain ⟨kHA0, kHA1, kHA2, kHA3⟩ := HA.1.cs
   obtain ⟨kHC0, kHC1, kHC2, kHC3⟩ := HC.1.cs
   go_wp2_with fail
   refine (r1.1 _ HB.1.below).mono ?_
   rintro e u1 ⟨rfl, hbl⟩
   clear kHA0 kHA1 kHA2 kHA3 kHC0 kHC1 kHC2 kHC3
   have HB := Kp.mk (HB.1.step hbl)
   have HA := Kp.mk (HA.1.step hbl)
   have HC := Kp.mk (HC.1.step hbl)
   clear hbl
   obtain ⟨kHA0, kHA1, kHA2, kHA3⟩ := HA.1.cs
   obtain ⟨kHC0, kHC1, kHC2, kHC3⟩ := HC.1.cs
   go_upto_region 2 with fail
   clear kHA0 kHA1 kHA2 kHA3 kHC0 kHC1 kHC2 kHC3
   have HX := Kp.mk (rg_new c 26 HB.1.below)
   have hbl := (Below.refl u1.heap.size u1).alloc (Nat.le_refl _) (.cells #[.int .i8 c.f, .int .i64 c.d, .int .i8 c.g, .int .i64 c.e] 26)
   have HB := Kp.mk (HB.1.step hbl)
   have HA := Kp.mk (HA.1.step hbl)
   have HC := Kp.mk (HC.1.step hbl)
   clear hbl
   generalize u1.alloc (.cells #[.int .i8 c.f, .int .i64 c.d, .int .i8 c.g, .int .i64 c.e] 26) = u2 at *
   generalize u1.heap.size = gx at *
   obtain ⟨kHA0, kHA1, kHA2, kHA3⟩ := HA.1.cs
   obtain ⟨kHC0, kHC1, kHC2, kHC3⟩ := HC.1.cs
   obtain ⟨kHX0, kHX1, kHX2, kHX3⟩ := HX.1.cs
   go_wp2_with fail
   go_ret
   exact ⟨rfl, HB.1.below⟩
 ·have hm : meetN a b = false := by cases h : meetN a b with | true => exact absurd h hm | false => rfl
  obtain rfl : false = v := by
   rw [← hv]
   cases h : inN a b with
   | true => rw [inN_meet ha h] at hm; cases hm
   | false => rfl
  have r1 : Kp (∀ u, Below w.heap.size w u → Calls Tryz.prog 15 #[rv a, rv b] u fun e w' => e = .returned (.tuple #[.agg #[.int .i8 0, .int .i64 0, .int .i8 0, .int .i64 0], .bool false]) ∧ Below u.heap.size u w') := Kp.mk (fun u hw => dComm_no ha hb hm u (hL.below hw))
  clear hv hL hm ha hb
  go_enter Tryz.func20, Tryz.ntmps20
  go_upto_region 1 with fail
  generalize ((w.alloc (.cells #[.int .i8 a.f, .int .i64 a.d, .int .i8 a.g, .int .i64 a.e] 26)).alloc (.cells #[.int .i8 b.f, .int .i64 b.d, .int .i8 b.g, .int .i64 b.e] 26)) = w0 at *
  obtain ⟨kHA0, kHA1, kHA2, kHA3⟩ := HA.1.cs
  obtain ⟨kHC0, kHC1, kHC2, kHC3⟩ := HC.1.cs
  go_wp2_with fail
  refine (r1.1 _ HB.1.below).mono ?_
  rintro e u1 ⟨rfl, hbl⟩
  clear kHA0 kHA1 kHA2 kHA3 kHC0 kHC1 kHC2 kHC3
  have HB := Kp.mk (HB.1.step hbl)
  have HA := Kp.mk (HA.1.step hbl)
  have HC := Kp.mk (HC.1.step hbl)
  clear hbl
  obtain ⟨kHA0, kHA1, kHA2, kHA3⟩ := HA.1.cs
  obtain ⟨kHC0, kHC1, kHC2, kHC3⟩ := HC.1.cs
  go_upto_region 2 with fail
  clear kHA0 kHA1 kHA2 kHA3 kHC0 kHC1 kHC2 kHC3
  have HX := Kp.mk (rg_zero  26 HB.1.below)
  have hbl := (Below.refl u1.heap.size u1).alloc (Nat.le_refl _) (.cells #[.int .i8 0, .int .i64 0, .int .i8 0, .int .i64 0] 26)
  have HB := Kp.mk (HB.1.step hbl)
  have HA := Kp.mk (HA.1.step hbl)
  have HC := Kp.mk (HC.1.step hbl)
  clear hbl
  generalize u1.alloc (.cells #[.int .i8 0, .int .i64 0, .int .i8 0, .int .i64 0] 26) = u2 at *
  generalize u1.heap.size = gx at *
  obtain ⟨kHA0, kHA1, kHA2, kHA3⟩ := HA.1.cs
  obtain ⟨kHC0, kHC1, kHC2, kHC3⟩ := HC.1.cs
  obtain ⟨kHX0, kHX1, kHX2, kHX3⟩ := HX.1.cs
  go_wp2_with fail
  go_ret
  exact ⟨rfl, HB.1.below⟩
theorem point_in {r : Rn} {x : Int} (x0 : -9223372036854775808 ≤ x) (x1 : x ≤ 9223372036854775807) : (⟨0, x, 0, x⟩ : Rn).In ∧ inN ⟨0, x, 0, x⟩ r = hasN r x := by
 have hi : (⟨0, x, 0, x⟩ : Rn).In := ⟨x0, x1, x0, x1⟩
 have ho : (⟨0, x, 0, x⟩ : Rn).Ok := { hi with lof := .inl rfl, hif := .inl rfl, le := fun _ _ => Int.le_refl _ }
 refine ⟨hi, ?_⟩
 have h1 := (chkR_zero hi).2 ho
 have h2 : (⟨0, x, 0, x⟩ : Rn).lo = x := by unfold Rn.lo posE; simp
 have h3 : (⟨0, x, 0, x⟩ : Rn).hi = x := by unfold Rn.hi posE; simp
 unfold inN hasN
 rw [decide_eq_decide, h2, h3]
 constructor
 ·intro h; exact h.2
 ·intro h; exact ⟨h1, h⟩
set_option maxHeartbeats 8000000 in
theorem dHas_is {r : Rn} {x : Int} {v : Bool} (hr : r.In) (x0 : -9223372036854775808 ≤ x) (x1 : x ≤ 9223372036854775807) (hv : hasN r x = v) (w : World) (hL : LaidEn w) :
 Calls Tryz.prog 22 #[.agg #[.int .i8 r.f, .int .i64 r.d, .int .i8 r.g, .int .i64 r.e], .int .i64 x] w fun z w' => z = .returned (.bool v) ∧ Below w.heap.size w w' := by
 have HA := Kp.mk (rg_new r 26 (Below.refl w.heap.size w))
 have HB := Kp.mk (bl_of HA.1)
 obtain ⟨hp, he⟩ := point_in (r := r) x0 x1
 rw [hv] at he
 have r1 : Kp (∀ u, Below w.heap.size w u → Calls Tryz.prog 47 #[.int .i64 x] u fun e w' => e = .returned (.agg #[.int .i8 0, .int .i64 x]) ∧ Below u.heap.size u w') := Kp.mk (fun u hw => endCoreN.of u (hL.below hw) x0 x1)
 have r2 : Kp (∀ u, Below w.heap.size w u → Calls Tryz.prog 20 #[.agg #[.int .i8 0, .int .i64 x, .int .i8 0, .int .i64 x], rv r] u fun e w' => e = .returned (.bool v) ∧ Below u.heap.size u w') := Kp.mk (fun u hw => dIn_is hp hr he u (hL.below hw))
 clear hp he hv hL hr
 go_enter Tryz.func22, Tryz.ntmps22
 go_upto_region 1 with fail
 generalize (w.alloc (.cells #[.int .i8 r.f, .int .i64 r.d, .int .i8 r.g, .int .i64 r.e] 26)) = w0 at *
 obtain ⟨kHA0, kHA1, kHA2, kHA3⟩ := HA.1.cs
 go_wp2_with fail
 refine (r1.1 _ HB.1.below).mono ?_
 rintro e u1 ⟨rfl, hbl⟩
 clear kHA0 kHA1 kHA2 kHA3
 have HB := Kp.mk (HB.1.step hbl)
 have HA := Kp.mk (HA.1.step hbl)
 clear hbl
 obtain ⟨kHA0, kHA1, kHA2, kHA3⟩ := HA.1.cs
 go_upto_region 2 with fail
 clear kHA0 kHA1 kHA2 kHA3
 have HX := Kp.mk (eb_new 0 x 24 HB.1.below)
 have hbl := (Below.refl u1.heap.size u1).alloc (Nat.le_refl _) (.cells #[.int .i8 0, .int .i64 x] 24)
 have HB := Kp.mk (HB.1.step hbl)
 have HA := Kp.mk (HA.1.step hbl)
 clear hbl
 generalize u1.alloc (.cells #[.int .i8 0, .int .i64 x] 24) = u2 at *
 generalize u1.heap.size = gx at *
 obtain ⟨kHA0, kHA1, kHA2, kHA3⟩ := HA.1.cs
 have kHX0 := HX.1.c0
 have kHX1 := HX.1.c1
 go_wp2_with fail
 refine (r2.1 _ HB.1.below).mono ?_
 rintro e u3 ⟨rfl, hbl⟩
 clear kHA0 kHA1 kHA2 kHA3 kHX0 kHX1
 have HB := Kp.mk (HB.1.step hbl)
 have HA := Kp.mk (HA.1.step hbl)
 have HX := Kp.mk (HX.1.step hbl)
 clear hbl
 obtain ⟨kHA0, kHA1, kHA2, kHA3⟩ := HA.1.cs
 have kHX0 := HX.1.c0
 have kHX1 := HX.1.c1
 go_wp2_with fail
 go_ret
 exact ⟨rfl, HB.1.below⟩
end Go.Proofs.YteddfolhpoikcaaGreatDoor
