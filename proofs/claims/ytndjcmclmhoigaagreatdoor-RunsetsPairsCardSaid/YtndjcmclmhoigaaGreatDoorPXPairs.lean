/-
  DERIVED. WHAT A CARD OF LAYER 10 NEEDS BESIDES what its sisters need: Pairs.
-/
import Derived.Test.YtndjcmclmhoigaaGreatDoorPD1
import Derived.Deep.RegionHeld3
namespace Go.Proofs.YtndjcmclmhoigaaGreatDoor
section -- RnMath
theorem comm_ok {a b : Rn} (ha : a.Ok) (hb : b.Ok) (hm : a.lo ≤ b.hi ∧ b.lo ≤ a.hi) : (commN a b).Ok ∧ (commN a b).lo = (if a.lo < b.lo then b.lo else a.lo) ∧ (commN a b).hi = (if b.hi < a.hi then b.hi else a.hi) := by
 have c1 := cmp_lo hb ha
 have c2 := cmp_hi hb ha
 have p := ha.pos
 have q := hb.pos
 have p1 := p.pl; have p2 := p.ph; have p3 := p.le
 have q1 := q.pl; have q2 := q.ph; have q3 := q.le
 have hi := commN_in ha.toIn hb.toIn
 have f1 : (commN a b).f = a.f ∧ (commN a b).d = a.d ∧ ¬ a.lo < b.lo ∨ (commN a b).f = b.f ∧ (commN a b).d = b.d ∧ a.lo < b.lo := by
  unfold commN
  simp only
  rw [c1]
  rcases cmpI_cases b.lo a.lo with h | h | h
  ·rw [h.2]; left; exact ⟨rfl, rfl, by have := h.1; omega⟩
  ·rw [h.2]; left; exact ⟨rfl, rfl, by have := h.1; omega⟩
  ·rw [h.2]; right; exact ⟨rfl, rfl, h.1⟩
 have f2 : (commN a b).g = a.g ∧ (commN a b).e = a.e ∧ ¬ b.hi < a.hi ∨ (commN a b).g = b.g ∧ (commN a b).e = b.e ∧ b.hi < a.hi := by
  unfold commN
  simp only
  rw [c2]
  rcases cmpI_cases b.hi a.hi with h | h | h
  ·rw [h.2]; right; exact ⟨rfl, rfl, h.1⟩
  ·rw [h.2]; left; exact ⟨rfl, rfl, by have := h.1; omega⟩
  ·rw [h.2]; left; exact ⟨rfl, rfl, by have := h.1; omega⟩
 have l1 : (commN a b).lo = (if a.lo < b.lo then b.lo else a.lo) := by
  show posE (commN a b).f (commN a b).d = _
  rcases f1 with q | q
  ·rw [q.1, q.2.1, if_neg q.2.2]; rfl
  ·rw [q.1, q.2.1, if_pos q.2.2]; rfl
 have l2 : (commN a b).hi = (if b.hi < a.hi then b.hi else a.hi) := by
  show posE (commN a b).g (commN a b).e = _
  rcases f2 with q | q
  ·rw [q.1, q.2.1, if_neg q.2.2]; rfl
  ·rw [q.1, q.2.1, if_pos q.2.2]; rfl
 refine ⟨?_, l1, l2⟩
 exact { hi with lof := by omega, hif := by omega, le := by omega }
/-- the join of two right runs is the second one exactly if the first one is within it -/
theorem join_within {a b : Rn} (ha : a.Ok) (hb : b.Ok) : joinN a b = b ↔ b.lo ≤ a.lo ∧ a.hi ≤ b.hi := by
 constructor
 ·intro h
  obtain ⟨_, l1, l2⟩ := join_ok ha hb
  rw [h] at l1 l2
  by_cases c1 : b.lo < a.lo <;> by_cases c2 : a.hi < b.hi <;> simp only [c1, c2, if_true, if_false] at l1 l2 <;> omega
 ·intro h
  have c1 := cmp_lo hb ha
  have c2 := cmp_hi hb ha
  have z1 := cmpE_zero b.f b.d a.f a.d
  have z2 := cmpE_zero b.g b.e a.g a.e
  have o1 : cmpE b.f b.d a.f a.d ≤ 0 := by rcases cmpI_cases b.lo a.lo with q | q | q <;> omega
  have o2 : 0 ≤ cmpE b.g b.e a.g a.e := by rcases cmpI_cases b.hi a.hi with q | q | q <;> omega
  have key : joinN a b = ⟨b.f, b.d, b.g, b.e⟩ := by
   unfold joinN
   rw [Rn.mk.injEq]
   refine ⟨?_, ?_, ?_, ?_⟩ <;> split <;> omega
  exact key
end
section -- RnRefB
open Go.RowKit
set_option maxRecDepth 100000

set_option maxHeartbeats 4000000 in
theorem refComm_is {a b v : Rn} (hv : commN a b = v) (w : World) :
 Calls Tryz.prog 25 #[.agg #[.int .i8 a.f, .int .i64 a.d, .int .i8 a.g, .int .i64 a.e], .agg #[.int .i8 b.f, .int .i64 b.d, .int .i8 b.g, .int .i64 b.e]] w fun x w' => x = .returned (.agg #[.int .i8 v.f, .int .i64 v.d, .int .i8 v.g, .int .i64 v.e]) ∧ Below w.heap.size w w' := by
 have HJ := Kp.mk (jn_new w a b)
 obtain ⟨q1, hq1⟩ : ∃ q, cmpE b.f b.d a.f a.d = q := ⟨_, rfl⟩
 obtain ⟨q2, hq2⟩ : ∃ q, cmpE b.g b.e a.g a.e = q := ⟨_, rfl⟩
 have r1 := Kp.mk (fun w => refECmp_is hq1 w)
 have r2 := Kp.mk (fun w => refECmp_is hq2 w)
 have E1 : v.f = (if 0 < q1 then b.f else a.f) ∧ v.d = (if 0 < q1 then b.d else a.d) := by rw [← hv]; unfold commN; simp only; rw [hq1]; exact ⟨rfl, rfl⟩
 have E2 : v.g = (if q2 < 0 then b.g else a.g) ∧ v.e = (if q2 < 0 then b.e else a.e) := by rw [← hv]; unfold commN; simp only; rw [hq2]; exact ⟨rfl, rfl⟩
 clear hv hq1 hq2
 by_cases h1 : 0 < q1
 ·by_cases h2 : q2 < 0
  ·have E1 := Kp.mk (show v.f = b.f ∧ v.d = b.d by rw [if_pos h1, if_pos h1] at E1; exact E1)
   have E2 := Kp.mk (show v.g = b.g ∧ v.e = b.e by rw [if_pos h2, if_pos h2] at E2; exact E2)
   go_enter Tryz.func25, Tryz.ntmps25
   go_upto_region 2 with fail
   generalize (((w.alloc (.cells #[.int .i8 a.f, .int .i64 a.d, .int .i8 a.g, .int .i64 a.e] 26)).alloc (.cells #[.int .i8 b.f, .int .i64 b.d, .int .i8 b.g, .int .i64 b.e] 26)).alloc (.cells #[.int .i8 0, .int .i64 0, .int .i8 0, .int .i64 0] 26)).alloc (.cells #[.int .i8 a.f, .int .i64 a.d, .int .i8 a.g, .int .i64 a.e] 26) = w0 at *
   have kb0 := HJ.out.b.c0
   have kb1 := HJ.out.b.c1
   have kb2 := HJ.out.b.c2
   have kb3 := HJ.out.b.c3
   obtain ⟨kr0, kr1, kr2, kr3⟩ := HJ.out.cells
   have fr0 := HJ.out.frozen 0
   have fr1 := HJ.out.frozen 1
   have fr2 := HJ.out.frozen 2
   have fr3 := HJ.out.frozen 3
   go_wp2_with fail
   refine (r1.out _).mono ?_
   rintro e u1 ⟨rfl, hbl⟩
   clear kb0 kb1 kb2 kb3 kr0 kr1 kr2 kr3 fr0 fr1 fr2 fr3
   have HJ := Kp.mk (HJ.out.step hbl)
   clear hbl
   have kb0 := HJ.out.b.c0
   have kb1 := HJ.out.b.c1
   have kb2 := HJ.out.b.c2
   have kb3 := HJ.out.b.c3
   obtain ⟨kr0, kr1, kr2, kr3⟩ := HJ.out.cells
   have fr0 := HJ.out.frozen 0
   have fr1 := HJ.out.frozen 1
   have fr2 := HJ.out.frozen 2
   have fr3 := HJ.out.frozen 3
   go_upto_region 4 with fail
   clear kb0 kb1 kb2 kb3 kr0 kr1 kr2 kr3 fr0 fr1 fr2 fr3
   have HJ := Kp.mk (HJ.out.lo b.f b.d)
   have kb0 := HJ.out.b.c0
   have kb1 := HJ.out.b.c1
   have kb2 := HJ.out.b.c2
   have kb3 := HJ.out.b.c3
   obtain ⟨kr0, kr1, kr2, kr3⟩ := HJ.out.cells
   have fr0 := HJ.out.frozen 0
   have fr1 := HJ.out.frozen 1
   have fr2 := HJ.out.frozen 2
   have fr3 := HJ.out.frozen 3
   go_wp2_with fail
   refine (r2.out _).mono ?_
   rintro e u2 ⟨rfl, hbl⟩
   clear kb0 kb1 kb2 kb3 kr0 kr1 kr2 kr3 fr0 fr1 fr2 fr3
   have HJ := Kp.mk (HJ.out.step hbl)
   clear hbl
   have kb0 := HJ.out.b.c0
   have kb1 := HJ.out.b.c1
   have kb2 := HJ.out.b.c2
   have kb3 := HJ.out.b.c3
   obtain ⟨kr0, kr1, kr2, kr3⟩ := HJ.out.cells
   have fr0 := HJ.out.frozen 0
   have fr1 := HJ.out.frozen 1
   have fr2 := HJ.out.frozen 2
   have fr3 := HJ.out.frozen 3
   go_upto_region 6 with fail
   clear kb0 kb1 kb2 kb3 kr0 kr1 kr2 kr3 fr0 fr1 fr2 fr3
   have HJ := Kp.mk (HJ.out.hi b.g b.e)
   have kb0 := HJ.out.b.c0
   have kb1 := HJ.out.b.c1
   have kb2 := HJ.out.b.c2
   have kb3 := HJ.out.b.c3
   obtain ⟨kr0, kr1, kr2, kr3⟩ := HJ.out.cells
   have fr0 := HJ.out.frozen 0
   have fr1 := HJ.out.frozen 1
   have fr2 := HJ.out.frozen 2
   have fr3 := HJ.out.frozen 3
   go_wp2_with (first
    | refine wpList_store_row' rfl 26 (.tmp 4) (.tmp 25) rfl (w.heap.size + 1 + 1) #[.int .i8 b.f, .int .i64 b.d, .int .i8 b.g, .int .i64 b.e] rfl rfl 26 #[.int .i8 0, .int .i64 0, .int .i8 0, .int .i64 0] HJ.out.z infoRn rfl (four_rn _ _ _ _) ?_)
   refine bodyPost_ret (results_cell_row (p := 4) (ty := 26) rfl _ _ (w.heap.size + 1 + 1) 26 #[.int .i8 b.f, .int .i64 b.d, .int .i8 b.g, .int .i64 b.e] (0, 0) _ rfl (setRow_heap _ _ _ _ _ _ HJ.out.z) Tryz.underlying26 rfl infoRn) rfl ?_
   exact ⟨by rw [E1.out.1, E1.out.2, E2.out.1, E2.out.2], below_setRow HJ.out.below (Nat.le_add_right _ (1 + 1)) _⟩
  ·have E1 := Kp.mk (show v.f = b.f ∧ v.d = b.d by rw [if_pos h1, if_pos h1] at E1; exact E1)
   have E2 := Kp.mk (show v.g = a.g ∧ v.e = a.e by rw [if_neg h2, if_neg h2] at E2; exact E2)
   go_enter Tryz.func25, Tryz.ntmps25
   go_upto_region 2 with fail
   generalize (((w.alloc (.cells #[.int .i8 a.f, .int .i64 a.d, .int .i8 a.g, .int .i64 a.e] 26)).alloc (.cells #[.int .i8 b.f, .int .i64 b.d, .int .i8 b.g, .int .i64 b.e] 26)).alloc (.cells #[.int .i8 0, .int .i64 0, .int .i8 0, .int .i64 0] 26)).alloc (.cells #[.int .i8 a.f, .int .i64 a.d, .int .i8 a.g, .int .i64 a.e] 26) = w0 at *
   have kb0 := HJ.out.b.c0
   have kb1 := HJ.out.b.c1
   have kb2 := HJ.out.b.c2
   have kb3 := HJ.out.b.c3
   obtain ⟨kr0, kr1, kr2, kr3⟩ := HJ.out.cells
   have fr0 := HJ.out.frozen 0
   have fr1 := HJ.out.frozen 1
   have fr2 := HJ.out.frozen 2
   have fr3 := HJ.out.frozen 3
   go_wp2_with fail
   refine (r1.out _).mono ?_
   rintro e u1 ⟨rfl, hbl⟩
   clear kb0 kb1 kb2 kb3 kr0 kr1 kr2 kr3 fr0 fr1 fr2 fr3
   have HJ := Kp.mk (HJ.out.step hbl)
   clear hbl
   have kb0 := HJ.out.b.c0
   have kb1 := HJ.out.b.c1
   have kb2 := HJ.out.b.c2
   have kb3 := HJ.out.b.c3
   obtain ⟨kr0, kr1, kr2, kr3⟩ := HJ.out.cells
   have fr0 := HJ.out.frozen 0
   have fr1 := HJ.out.frozen 1
   have fr2 := HJ.out.frozen 2
   have fr3 := HJ.out.frozen 3
   go_upto_region 4 with fail
   clear kb0 kb1 kb2 kb3 kr0 kr1 kr2 kr3 fr0 fr1 fr2 fr3
   have HJ := Kp.mk (HJ.out.lo b.f b.d)
   have kb0 := HJ.out.b.c0
   have kb1 := HJ.out.b.c1
   have kb2 := HJ.out.b.c2
   have kb3 := HJ.out.b.c3
   obtain ⟨kr0, kr1, kr2, kr3⟩ := HJ.out.cells
   have fr0 := HJ.out.frozen 0
   have fr1 := HJ.out.frozen 1
   have fr2 := HJ.out.frozen 2
   have fr3 := HJ.out.frozen 3
   go_wp2_with fail
   refine (r2.out _).mono ?_
   rintro e u2 ⟨rfl, hbl⟩
   clear kb0 kb1 kb2 kb3 kr0 kr1 kr2 kr3 fr0 fr1 fr2 fr3
   have HJ := Kp.mk (HJ.out.step hbl)
   clear hbl
   have kb0 := HJ.out.b.c0
   have kb1 := HJ.out.b.c1
   have kb2 := HJ.out.b.c2
   have kb3 := HJ.out.b.c3
   obtain ⟨kr0, kr1, kr2, kr3⟩ := HJ.out.cells
   have fr0 := HJ.out.frozen 0
   have fr1 := HJ.out.frozen 1
   have fr2 := HJ.out.frozen 2
   have fr3 := HJ.out.frozen 3
   go_upto_region 6 with fail
   go_wp2_with (first
    | refine wpList_store_row' rfl 26 (.tmp 4) (.tmp 25) rfl (w.heap.size + 1 + 1) #[.int .i8 b.f, .int .i64 b.d, .int .i8 a.g, .int .i64 a.e] rfl rfl 26 #[.int .i8 0, .int .i64 0, .int .i8 0, .int .i64 0] HJ.out.z infoRn rfl (four_rn _ _ _ _) ?_)
   refine bodyPost_ret (results_cell_row (p := 4) (ty := 26) rfl _ _ (w.heap.size + 1 + 1) 26 #[.int .i8 b.f, .int .i64 b.d, .int .i8 a.g, .int .i64 a.e] (0, 0) _ rfl (setRow_heap _ _ _ _ _ _ HJ.out.z) Tryz.underlying26 rfl infoRn) rfl ?_
   exact ⟨by rw [E1.out.1, E1.out.2, E2.out.1, E2.out.2], below_setRow HJ.out.below (Nat.le_add_right _ (1 + 1)) _⟩
 ·by_cases h2 : q2 < 0
  ·have E1 := Kp.mk (show v.f = a.f ∧ v.d = a.d by rw [if_neg h1, if_neg h1] at E1; exact E1)
   have E2 := Kp.mk (show v.g = b.g ∧ v.e = b.e by rw [if_pos h2, if_pos h2] at E2; exact E2)
   go_enter Tryz.func25, Tryz.ntmps25
   go_upto_region 2 with fail
   generalize (((w.alloc (.cells #[.int .i8 a.f, .int .i64 a.d, .int .i8 a.g, .int .i64 a.e] 26)).alloc (.cells #[.int .i8 b.f, .int .i64 b.d, .int .i8 b.g, .int .i64 b.e] 26)).alloc (.cells #[.int .i8 0, .int .i64 0, .int .i8 0, .int .i64 0] 26)).alloc (.cells #[.int .i8 a.f, .int .i64 a.d, .int .i8 a.g, .int .i64 a.e] 26) = w0 at *
   have kb0 := HJ.out.b.c0
   have kb1 := HJ.out.b.c1
   have kb2 := HJ.out.b.c2
   have kb3 := HJ.out.b.c3
   obtain ⟨kr0, kr1, kr2, kr3⟩ := HJ.out.cells
   have fr0 := HJ.out.frozen 0
   have fr1 := HJ.out.frozen 1
   have fr2 := HJ.out.frozen 2
   have fr3 := HJ.out.frozen 3
   go_wp2_with fail
   refine (r1.out _).mono ?_
   rintro e u1 ⟨rfl, hbl⟩
   clear kb0 kb1 kb2 kb3 kr0 kr1 kr2 kr3 fr0 fr1 fr2 fr3
   have HJ := Kp.mk (HJ.out.step hbl)
   clear hbl
   have kb0 := HJ.out.b.c0
   have kb1 := HJ.out.b.c1
   have kb2 := HJ.out.b.c2
   have kb3 := HJ.out.b.c3
   obtain ⟨kr0, kr1, kr2, kr3⟩ := HJ.out.cells
   have fr0 := HJ.out.frozen 0
   have fr1 := HJ.out.frozen 1
   have fr2 := HJ.out.frozen 2
   have fr3 := HJ.out.frozen 3
   go_upto_region 4 with fail
   go_wp2_with fail
   refine (r2.out _).mono ?_
   rintro e u2 ⟨rfl, hbl⟩
   clear kb0 kb1 kb2 kb3 kr0 kr1 kr2 kr3 fr0 fr1 fr2 fr3
   have HJ := Kp.mk (HJ.out.step hbl)
   clear hbl
   have kb0 := HJ.out.b.c0
   have kb1 := HJ.out.b.c1
   have kb2 := HJ.out.b.c2
   have kb3 := HJ.out.b.c3
   obtain ⟨kr0, kr1, kr2, kr3⟩ := HJ.out.cells
   have fr0 := HJ.out.frozen 0
   have fr1 := HJ.out.frozen 1
   have fr2 := HJ.out.frozen 2
   have fr3 := HJ.out.frozen 3
   go_upto_region 6 with fail
   clear kb0 kb1 kb2 kb3 kr0 kr1 kr2 kr3 fr0 fr1 fr2 fr3
   have HJ := Kp.mk (HJ.out.hi b.g b.e)
   have kb0 := HJ.out.b.c0
   have kb1 := HJ.out.b.c1
   have kb2 := HJ.out.b.c2
   have kb3 := HJ.out.b.c3
   obtain ⟨kr0, kr1, kr2, kr3⟩ := HJ.out.cells
   have fr0 := HJ.out.frozen 0
   have fr1 := HJ.out.frozen 1
   have fr2 := HJ.out.frozen 2
   have fr3 := HJ.out.frozen 3
   go_wp2_with (first
    | refine wpList_store_row' rfl 26 (.tmp 4) (.tmp 25) rfl (w.heap.size + 1 + 1) #[.int .i8 a.f, .int .i64 a.d, .int .i8 b.g, .int .i64 b.e] rfl rfl 26 #[.int .i8 0, .int .i64 0, .int .i8 0, .int .i64 0] HJ.out.z infoRn rfl (four_rn _ _ _ _) ?_)
   refine bodyPost_ret (results_cell_row (p := 4) (ty := 26) rfl _ _ (w.heap.size + 1 + 1) 26 #[.int .i8 a.f, .int .i64 a.d, .int .i8 b.g, .int .i64 b.e] (0, 0) _ rfl (setRow_heap _ _ _ _ _ _ HJ.out.z) Tryz.underlying26 rfl infoRn) rfl ?_
   exact ⟨by rw [E1.out.1, E1.out.2, E2.out.1, E2.out.2], below_setRow HJ.out.below (Nat.le_add_right _ (1 + 1)) _⟩
  ·have E1 := Kp.mk (show v.f = a.f ∧ v.d = a.d by rw [if_neg h1, if_neg h1] at E1; exact E1)
   have E2 := Kp.mk (show v.g = a.g ∧ v.e = a.e by rw [if_neg h2, if_neg h2] at E2; exact E2)
   go_enter Tryz.func25, Tryz.ntmps25
   go_upto_region 2 with fail
   generalize (((w.alloc (.cells #[.int .i8 a.f, .int .i64 a.d, .int .i8 a.g, .int .i64 a.e] 26)).alloc (.cells #[.int .i8 b.f, .int .i64 b.d, .int .i8 b.g, .int .i64 b.e] 26)).alloc (.cells #[.int .i8 0, .int .i64 0, .int .i8 0, .int .i64 0] 26)).alloc (.cells #[.int .i8 a.f, .int .i64 a.d, .int .i8 a.g, .int .i64 a.e] 26) = w0 at *
   have kb0 := HJ.out.b.c0
   have kb1 := HJ.out.b.c1
   have kb2 := HJ.out.b.c2
   have kb3 := HJ.out.b.c3
   obtain ⟨kr0, kr1, kr2, kr3⟩ := HJ.out.cells
   have fr0 := HJ.out.frozen 0
   have fr1 := HJ.out.frozen 1
   have fr2 := HJ.out.frozen 2
   have fr3 := HJ.out.frozen 3
   go_wp2_with fail
   refine (r1.out _).mono ?_
   rintro e u1 ⟨rfl, hbl⟩
   clear kb0 kb1 kb2 kb3 kr0 kr1 kr2 kr3 fr0 fr1 fr2 fr3
   have HJ := Kp.mk (HJ.out.step hbl)
   clear hbl
   have kb0 := HJ.out.b.c0
   have kb1 := HJ.out.b.c1
   have kb2 := HJ.out.b.c2
   have kb3 := HJ.out.b.c3
   obtain ⟨kr0, kr1, kr2, kr3⟩ := HJ.out.cells
   have fr0 := HJ.out.frozen 0
   have fr1 := HJ.out.frozen 1
   have fr2 := HJ.out.frozen 2
   have fr3 := HJ.out.frozen 3
   go_upto_region 4 with fail
   go_wp2_with fail
   refine (r2.out _).mono ?_
   rintro e u2 ⟨rfl, hbl⟩
   clear kb0 kb1 kb2 kb3 kr0 kr1 kr2 kr3 fr0 fr1 fr2 fr3
   have HJ := Kp.mk (HJ.out.step hbl)
   clear hbl
   have kb0 := HJ.out.b.c0
   have kb1 := HJ.out.b.c1
   have kb2 := HJ.out.b.c2
   have kb3 := HJ.out.b.c3
   obtain ⟨kr0, kr1, kr2, kr3⟩ := HJ.out.cells
   have fr0 := HJ.out.frozen 0
   have fr1 := HJ.out.frozen 1
   have fr2 := HJ.out.frozen 2
   have fr3 := HJ.out.frozen 3
   go_upto_region 6 with fail
   go_wp2_with (first
    | refine wpList_store_row' rfl 26 (.tmp 4) (.tmp 25) rfl (w.heap.size + 1 + 1) #[.int .i8 a.f, .int .i64 a.d, .int .i8 a.g, .int .i64 a.e] rfl rfl 26 #[.int .i8 0, .int .i64 0, .int .i8 0, .int .i64 0] HJ.out.z infoRn rfl (four_rn _ _ _ _) ?_)
   refine bodyPost_ret (results_cell_row (p := 4) (ty := 26) rfl _ _ (w.heap.size + 1 + 1) 26 #[.int .i8 a.f, .int .i64 a.d, .int .i8 a.g, .int .i64 a.e] (0, 0) _ rfl (setRow_heap _ _ _ _ _ _ HJ.out.z) Tryz.underlying26 rfl infoRn) rfl ?_
   exact ⟨by rw [E1.out.1, E1.out.2, E2.out.1, E2.out.2], below_setRow HJ.out.below (Nat.le_add_right _ (1 + 1)) _⟩
end
section -- RsRefB
open Go.RowKit
set_option maxRecDepth 100000

variable {w W W' : World} {a b : Option Addr} {l m : List Rn}
theorem Lr.at' {w W : World} (h : Lr w a l W) : Lr W a l W := ⟨Below.refl _ _, h.at4⟩
set_option maxHeartbeats 2000000 in
theorem refSBoth_is {c : Int} {p q : Nat} (hl : ∀ r, r ∈ l → r.In) (hm : ∀ r, r ∈ m → r.In) (nl : l.length ≤ maxLen) (nm : m.length ≤ maxLen) (al : Lr w a l w) (am : Lr w b m w) (hc : bothRs l m = c) :
 Calls Tryz.prog 118 #[.slice a l.length p, .slice b m.length q] w fun x w' => x = .returned (.int .i64 c) ∧ Below w.heap.size w w' := by
 unfold bothRs at hc
 obtain ⟨u, hu⟩ : ∃ u, chkRs l = u := ⟨_, rfl⟩
 obtain ⟨v, hv⟩ : ∃ v, chkRs m = v := ⟨_, rfl⟩
 have HB := Kp.mk (Bl.mk (Below.refl w.heap.size w))
 have r1 := Kp.mk (fun (x : World) (h : Below w.heap.size w x) => refSChk_is (cap := p) hl hu nl (al.step h).at')
 have r2 := Kp.mk (fun (x : World) (h : Below w.heap.size w x) => refSChk_is (cap := q) hm hv nm (am.step h).at')
 rw [hu, hv] at hc
 clear hu hv hl hm nl nm al am
 generalize l.length = n at *
 generalize m.length = k at *
 by_cases h : u = 0
 ·rw [if_pos h] at hc
  subst h hc
  go_enter Tryz.func118, Tryz.ntmps118
  go_wp2_with fail
  refine (r1.out _ HB.out.below).mono ?_
  rintro e v1 ⟨rfl, hb⟩
  have HB := Kp.mk (Bl.step HB.out hb)
  clear hb
  go_wp2_with fail
  refine (r2.out _ HB.out.below).mono ?_
  rintro e v2 ⟨rfl, hb⟩
  have HB := Kp.mk (Bl.step HB.out hb)
  clear hb
  go_wp2_with fail
  go_ret
  exact ⟨rfl, HB.out.below⟩
 ·rw [if_neg h] at hc
  subst hc
  have t1 : (u == 0) = false := by rw [beq_eq_false_iff_ne]; exact h
  clear h
  go_enter Tryz.func118, Tryz.ntmps118
  go_wp2_with fail
  refine (r1.out _ HB.out.below).mono ?_
  rintro e v1 ⟨rfl, hb⟩
  have HB := Kp.mk (Bl.step HB.out hb)
  clear hb
  go_wp2_with fail
  go_ret
  exact ⟨rfl, HB.out.below⟩
theorem refSShort_in {n p : Nat} (h : n ≤ 4096) (w : World) :
 Calls Tryz.prog 120 #[.slice a n p] w fun x w' => x = .returned (.tuple #[.slice a n p, .int .i64 0]) ∧ Below w.heap.size w w' := by
 have HB := Kp.mk (Bl.mk (Below.refl w.heap.size w))
 have t0 : decide ((4096 : Int) < (n : Int)) = false := decide_eq_false (by omega)
 go_enter Tryz.func120, Tryz.ntmps120
 go_wp2_with fail
 go_ret2
 exact ⟨rfl, HB.out.below⟩
theorem refSShort_out {n p : Nat} (h : 4096 < n) (w : World) :
 Calls Tryz.prog 120 #[.slice a n p] w fun x w' => x = .returned (.tuple #[.slice none 0 0, .int .i64 3]) ∧ Below w.heap.size w w' := by
 have HB := Kp.mk (Bl.mk (Below.refl w.heap.size w))
 have t0 : decide ((4096 : Int) < (n : Int)) = true := decide_eq_true (by omega)
 go_enter Tryz.func120, Tryz.ntmps120
 go_wp2_with fail
 go_ret2
 exact ⟨rfl, HB.out.below⟩
theorem refSIn_bad {c : Int} {p q : Nat} (hl : ∀ r, r ∈ l → r.In) (hm : ∀ r, r ∈ m → r.In) (nl : l.length ≤ maxLen) (nm : m.length ≤ maxLen) (al : Lr w a l w) (am : Lr w b m w) (hc : bothRs l m = c) (h0 : ¬ c = 0) :
 Calls Tryz.prog 57 #[.slice a l.length p, .slice b m.length q] w fun x w' => x = .returned (.tuple #[.bool false, .int .i64 c]) ∧ Below w.heap.size w w' := by
 have HB := Kp.mk (Bl.mk (Below.refl w.heap.size w))
 have r1 := Kp.mk (fun (x : World) (h : Below w.heap.size w x) => refSBoth_is (p := p) (q := q) hl hm nl nm (al.step h).at' (am.step h).at' hc)
 have t1 : (c != 0) = true := by rw [bne_iff_ne]; exact h0
 clear hc h0 hl hm nl nm al am
 generalize l.length = n at *
 generalize m.length = k at *
 go_enter Tryz.func57, Tryz.ntmps57
 go_wp2_with fail
 refine (r1.out _ HB.out.below).mono ?_
 rintro e v1 ⟨rfl, hb⟩
 have HB := Kp.mk (Bl.step HB.out hb)
 clear hb
 go_wp2_with fail
 refine (r1.out _ HB.out.below).mono ?_
 rintro e v2 ⟨rfl, hb⟩
 have HB := Kp.mk (Bl.step HB.out hb)
 clear hb
 go_wp2_with fail
 go_ret2
 exact ⟨rfl, HB.out.below⟩
end
section -- RsRefU
open Go.RowKit
set_option maxRecDepth 100000

variable {w W W' : World} {a b : Option Addr} {l m : List Rn}
/-- a list that is not too long is returned, or error 3 -/
def ShortOf (S : Int → Prop) (N : Nat) (w : World) (x : Ending) (w' : World) : Prop :=
 ∃ u : List Rn, IsRs u S ∧ u.length ≤ N ∧ ((u.length ≤ 4096 ∧ ∃ b p, x = .returned (.tuple #[.slice b u.length p, .int .i64 0]) ∧ Lr w b u w') ∨ (4096 < u.length ∧ x = .returned (.tuple #[.slice none 0 0, .int .i64 3])))
set_option maxHeartbeats 4000000 in
theorem refSUnion_bad {c : Int} {p q : Nat} (hl : ∀ r, r ∈ l → r.In) (hm : ∀ r, r ∈ m → r.In) (nl : l.length ≤ maxLen) (nm : m.length ≤ maxLen) (al : Lr w a l w) (am : Lr w b m w) (hc : bothRs l m = c) (h0 : ¬ c = 0) :
 Calls Tryz.prog 54 #[.slice a l.length p, .slice b m.length q] w fun x w' => x = .returned (.tuple #[.slice none 0 0, .int .i64 c]) ∧ Below w.heap.size w w' := by
 have HB := Kp.mk (Bl.mk (Below.refl w.heap.size w))
 have r1 := Kp.mk (fun (x : World) (h : Below w.heap.size w x) => refSBoth_is (p := p) (q := q) hl hm nl nm (al.step h).now (am.step h).now hc)
 have t1 : (c != 0) = true := by rw [bne_iff_ne]; exact h0
 clear hc h0 hl hm nl nm al am
 generalize l.length = n at *
 generalize m.length = k at *
 go_enter Tryz.func54, Tryz.ntmps54
 go_wp2_with fail
 refine (r1.out _ HB.out.below).mono ?_
 rintro e v1 ⟨rfl, hb⟩
 have HB := Kp.mk (Bl.step HB.out hb)
 clear hb
 go_wp2_with fail
 refine (r1.out _ HB.out.below).mono ?_
 rintro e v2 ⟨rfl, hb⟩
 have HB := Kp.mk (Bl.step HB.out hb)
 clear hb
 go_wp2_with fail
 go_ret2
 exact ⟨rfl, HB.out.below⟩
theorem mem_take (S : Int → Prop) {p : Nat} {r : Rn} (hr : m[p]? = some r) (x : Int) : ((S x ∨ memR (m.take p) x) ∨ r.has x) ↔ (S x ∨ memR (m.take (p + 1)) x) := by
 rw [← take_mem hr x, or_assoc]
set_option maxHeartbeats 4000000 in
theorem refSUnion_is {p q : Nat} (hl : ∀ r, r ∈ l → r.In) (hm : ∀ r, r ∈ m → r.In) (nl : l.length ≤ maxLen) (nm : m.length ≤ maxLen) (al : Lr w a l w) (am : Lr w b m w) (hc : bothRs l m = 0) :
 Calls Tryz.prog 54 #[.slice a l.length p, .slice b m.length q] w fun x w' => ShortOf (fun x => memR l x ∨ memR m x) (l.length + m.length) w x w' ∧ Below w.heap.size w w' := by
 have HL := Kp.mk al
 have HM := Kp.mk am
 have r1 := Kp.mk (fun (x : World) (h : Below w.heap.size w x) => refSBoth_is (p := p) (q := q) hl hm nl nm (al.step h).now (am.step h).now hc)
 obtain ⟨⟨nl2, cl⟩, nm2, cm⟩ := both_zero hl hm hc
 have CM := Kp.mk cm
 have HD : Kp (IsRs l (fun x => memR l x ∨ memR (m.take 0) x)) := Kp.mk ⟨cl, fun x => ⟨.inl, fun h => h.elim id (fun h => absurd h (memR_nil x))⟩⟩
 obtain ⟨S, hS⟩ : ∃ S : Int → Prop, (fun x => memR l x) = S := ⟨_, rfl⟩
 have HD : Kp (IsRs l (fun x => S x ∨ memR (m.take 0) x)) := Kp.mk (by subst hS; exact HD.out)
 have HE : Kp (∀ (u : List Rn) (N : Nat) (x : Ending) (w' : World), ShortOf (fun x => S x ∨ memR m x) N w x w' → ShortOf (fun x => memR l x ∨ memR m x) N w x w') := Kp.mk (by subst hS; exact fun _ _ _ _ h => h)
 clear hl hm nl nm al am hc cl cm hS
 obtain ⟨n, hnn⟩ : ∃ n, l.length = n := ⟨_, rfl⟩
 obtain ⟨k, hkk⟩ : ∃ k, m.length = k := ⟨_, rfl⟩
 rw [hnn, hkk] at r1 ⊢
 rw [hnn] at nl2
 rw [hkk] at nm2
 go_enter Tryz.func54, Tryz.ntmps54
 go_wp2_with fail
 refine (r1.out _ HL.out.below).mono ?_
 rintro e v1 ⟨rfl, hb⟩
 have HL := Kp.mk (HL.out.step hb)
 have HM := Kp.mk (HM.out.step hb)
 clear hb r1
 go_wp2_with fail
 go_loopw [6, 7] (fun v i wr => ∃ (j : Nat) (ms : List Rn) (d : Option Addr) (c : Nat), j ≤ k ∧ i = .int .i64 (j : Int) ∧ v = .slice d ms.length c ∧ ms.length ≤ n + j ∧ Kp (IsRs ms (fun x => S x ∨ memR (m.take j) x)) ∧ Kp (Lr w b m wr) ∧ Kp (Lr w d ms wr)) (fun _ i _ => k - (intOf i).toNat)
 case atStart => exact ⟨0, l, a, p, by omega, rfl, by rw [hnn], by omega, HD, HM, HL⟩
 case round =>
  obtain ⟨j, ms, d, c, hj, rfl, rfl, hlen, HD, HM, HX⟩ := hrel
  by_cases h1 : j < k
  ·have t1 : decide ((j : Int) < (k : Int)) = true := decide_eq_true (by omega)
   have b1 : (j : Int) < (k : Int) := by omega
   obtain ⟨r, hr⟩ : ∃ r, m[j]? = some r := ⟨m[j]'(by omega), List.getElem?_eq_getElem (by omega)⟩
   obtain ⟨g, s, rfl⟩ := HM.out.place hr
   have hro := CM.out.ok r (List.mem_of_getElem? hr)
   have wp1 : IntKind.i64.wrap ((j : Int) + 1) = (j : Int) + 1 := IntWalk.i64_in _ (by omega)
   have rp := Kp.mk (refSPut_is (cap := c) HD.out.can hro (by omega) HX.out.now)
   obtain ⟨k0, k1, k2, k3⟩ := HM.out.cells hr
   clear hro
   go_wp2_with fail
   refine rp.out.mono ?_
   rintro e v1 ⟨⟨m2, b2, p2, rfl, hm, hlen2, hlr⟩, hbl⟩
   have HM := Kp.mk (HM.out.step hbl)
   have HX : Kp (Lr w b2 m2 v1) := Kp.mk ⟨HM.out.below, hlr.at4⟩
   have HD : Kp (IsRs m2 (fun x => S x ∨ memR (m.take (j + 1)) x)) := Kp.mk (hm.congr (fun x => Iff.trans (or_congr (HD.out.mem x) Iff.rfl) (mem_take S hr x)))
   have hlen3 : m2.length ≤ n + (j + 1) := by omega
   clear hbl hlr hm hlen2 rp k0 k1 k2 k3
   go_wp2_with fail
   go_roundw
   case rel => exact ⟨j + 1, m2, b2, p2, by omega, by go_num, rfl, hlen3, HD, HM, HX⟩
   case measure => simp [intOf]; omega
  ·obtain rfl : j = k := by omega
   have hd := HD.out
   rw [List.take_of_length_le (by omega)] at hd
   have HD := Kp.mk hd
   clear hd
   by_cases h2 : ms.length ≤ 4096
   ·have r2 := Kp.mk (fun w => refSShort_in (a := d) (p := c) h2 w)
    go_wp2_with fail
    refine (r2.out _).mono ?_
    rintro e v1 ⟨rfl, hbl⟩
    have HX := Kp.mk (HX.out.step hbl)
    clear hbl r2
    go_wp2_with fail
    go_ret2
    exact ⟨HE.out ms _ _ _ ⟨ms, HD.out, hlen, .inl ⟨h2, d, c, rfl, HX.out⟩⟩, HX.out.below⟩
   ·have r2 := Kp.mk (fun w => refSShort_out (a := d) (p := c) (Nat.lt_of_not_le h2) w)
    go_wp2_with fail
    refine (r2.out _).mono ?_
    rintro e v1 ⟨rfl, hbl⟩
    have HX := Kp.mk (HX.out.step hbl)
    clear hbl r2
    go_wp2_with fail
    go_ret2
    exact ⟨HE.out ms _ _ _ ⟨ms, HD.out, hlen, .inr ⟨Nat.lt_of_not_le h2, rfl⟩⟩, HX.out.below⟩
end
section -- RsLess
/-- what is left of a run ahead of another one, and behind it -/
def lessL (r s : Rn) : List Rn := if s.f = 0 ∧ ¬ s.d = -9223372036854775808 ∧ r.lo ≤ s.d - 1 then [⟨r.f, r.d, 0, s.d - 1⟩] else []
def lessH (r s : Rn) : List Rn := if s.g = 0 ∧ ¬ s.e = 9223372036854775807 ∧ s.e + 1 ≤ r.hi then [⟨0, s.e + 1, r.g, r.e⟩] else []
def lessN (r s : Rn) : List Rn := if r.lo ≤ s.hi ∧ s.lo ≤ r.hi then lessL r s ++ lessH r s else [r]
/-- the places that a run leaves of others: where it has the first day (the last one), what is beyond that goes too -/
def leftP (s : Rn) (x : Int) : Prop := ¬ s.has x ∧ (x < -9223372036854775808 → ¬ s.has (-9223372036854775808)) ∧ (9223372036854775807 < x → ¬ s.has 9223372036854775807)
theorem pieceL {r s : Rn} (hr : r.Ok) (hs : s.Ok) (h : s.f = 0 ∧ ¬ s.d = -9223372036854775808 ∧ r.lo ≤ s.d - 1) :
 (⟨r.f, r.d, 0, s.d - 1⟩ : Rn).Ok ∧ (⟨r.f, r.d, 0, s.d - 1⟩ : Rn).lo = r.lo ∧ (⟨r.f, r.d, 0, s.d - 1⟩ : Rn).hi = s.d - 1 := by
 have p := hr.pos.pl
 have := hr.d0; have := hr.d1; have := hs.d0; have := hs.d1
 refine ⟨{ d0 := hr.d0, d1 := hr.d1, e0 := ?_, e1 := ?_, lof := hr.lof, hif := .inl rfl, le := ?_ }, rfl, ?_⟩
 ·show -9223372036854775808 ≤ s.d - 1; omega
 ·show s.d - 1 ≤ 9223372036854775807; omega
 ·show r.f = 0 → _ → r.d ≤ s.d - 1
  intro _ _; omega
 ·unfold Rn.hi posE; rw [if_pos rfl]
theorem pieceH {r s : Rn} (hr : r.Ok) (hs : s.Ok) (h : s.g = 0 ∧ ¬ s.e = 9223372036854775807 ∧ s.e + 1 ≤ r.hi) :
 (⟨0, s.e + 1, r.g, r.e⟩ : Rn).Ok ∧ (⟨0, s.e + 1, r.g, r.e⟩ : Rn).lo = s.e + 1 ∧ (⟨0, s.e + 1, r.g, r.e⟩ : Rn).hi = r.hi := by
 have p := hr.pos.ph
 have := hr.e0; have := hr.e1; have := hs.e0; have := hs.e1
 refine ⟨{ d0 := ?_, d1 := ?_, e0 := hr.e0, e1 := hr.e1, lof := .inl rfl, hif := hr.hif, le := ?_ }, ?_, rfl⟩
 ·show -9223372036854775808 ≤ s.e + 1; omega
 ·show s.e + 1 ≤ 9223372036854775807; omega
 ·show _ → r.g = 0 → s.e + 1 ≤ r.e
  intro _ _; omega
 ·unfold Rn.lo posE; rw [if_pos rfl]
theorem rsc_append {l m : List Rn} (hl : RsCan l) (hm : RsCan m) (h : ∀ a, a ∈ l → ∀ b, b ∈ m → a.hi + 1 < b.lo) : RsCan (l ++ m) :=
 ⟨fun r hr => (List.mem_append.1 hr).elim (hl.ok r) (hm.ok r), List.pairwise_append.2 ⟨hl.gap, hm.gap, h⟩⟩
theorem lessL_is {r s : Rn} (hr : r.Ok) (hs : s.Ok) : RsCan (lessL r s) ∧ ∀ x, memR (lessL r s) x ↔ (s.f = 0 ∧ ¬ s.d = -9223372036854775808 ∧ r.lo ≤ x ∧ x ≤ s.d - 1) := by
 unfold lessL
 by_cases h : s.f = 0 ∧ ¬ s.d = -9223372036854775808 ∧ r.lo ≤ s.d - 1
 ·rw [if_pos h]
  obtain ⟨h1, h2, h3⟩ := pieceL hr hs h
  refine ⟨rsc_one h1, fun x => memR_one.trans ?_⟩
  unfold Rn.has
  rw [h2, h3]
  omega
 ·rw [if_neg h]
  exact ⟨rsc_nil, fun x => ⟨fun h => absurd h (memR_nil x), fun q => absurd ⟨q.1, q.2.1, by omega⟩ h⟩⟩
theorem lessH_is {r s : Rn} (hr : r.Ok) (hs : s.Ok) : RsCan (lessH r s) ∧ ∀ x, memR (lessH r s) x ↔ (s.g = 0 ∧ ¬ s.e = 9223372036854775807 ∧ s.e + 1 ≤ x ∧ x ≤ r.hi) := by
 unfold lessH
 by_cases h : s.g = 0 ∧ ¬ s.e = 9223372036854775807 ∧ s.e + 1 ≤ r.hi
 ·rw [if_pos h]
  obtain ⟨h1, h2, h3⟩ := pieceH hr hs h
  refine ⟨rsc_one h1, fun x => memR_one.trans ?_⟩
  unfold Rn.has
  rw [h2, h3]
  omega
 ·rw [if_neg h]
  exact ⟨rsc_nil, fun x => ⟨fun h => absurd h (memR_nil x), fun q => absurd ⟨q.1, q.2.1, by omega⟩ h⟩⟩
theorem less_is {r s : Rn} (hr : r.Ok) (hs : s.Ok) : IsRs (lessN r s) (fun x => r.has x ∧ leftP s x) := by
 have p1 := hr.pos.pl
 have p2 := hr.pos.ph
 have q1 := hs.pos.pl
 have q2 := hs.pos.ph
 have q3 := hs.pos.le
 unfold lessN
 by_cases h : r.lo ≤ s.hi ∧ s.lo ≤ r.hi
 ·rw [if_pos h]
  obtain ⟨a1, a2⟩ := lessL_is hr hs
  obtain ⟨b1, b2⟩ := lessH_is hr hs
  refine ⟨rsc_append a1 b1 (fun a ha b hb => ?_), fun x => ?_⟩
  ·have ca := (a2 a.hi).1 ⟨a, ha, (a1.ok a ha).pos.le, Int.le_refl _⟩
   have cb := (b2 b.lo).1 ⟨b, hb, Int.le_refl _, (b1.ok b hb).pos.le⟩
   omega
  ·rw [memR_append, a2 x, b2 x]
   unfold leftP Rn.has
   omega
 ·rw [if_neg h]
  refine ⟨rsc_one hr, fun x => memR_one.trans ?_⟩
  unfold leftP Rn.has
  omega
/-- each run of a list without another one -/
def outN (l : List Rn) (s : Rn) : List Rn := l.flatMap fun r => lessN r s
theorem outN_nil (s : Rn) : outN [] s = [] := rfl
theorem outN_cons (r : Rn) (l : List Rn) (s : Rn) : outN (r :: l) s = lessN r s ++ outN l s := rfl
theorem outN_add (l m : List Rn) (s : Rn) : outN (l ++ m) s = outN l s ++ outN m s := by unfold outN; rw [List.flatMap_append]
theorem out_mem {l : List Rn} {s : Rn} (hl : RsCan l) (hs : s.Ok) (x : Int) : memR (outN l s) x ↔ memR l x ∧ leftP s x := by
 induction l with
 | nil => exact ⟨fun h => absurd h (memR_nil x), fun h => absurd h.1 (memR_nil x)⟩
 | cons a t ih =>
  have hc := rsc_cons.1 hl
  rw [outN_cons, memR_append, (less_is hc.1 hs).mem x, ih hc.2.2, memR_cons]
  constructor
  ·rintro (⟨h1, h2⟩ | ⟨h1, h2⟩)
   ·exact ⟨.inl h1, h2⟩
   ·exact ⟨.inr h1, h2⟩
  ·rintro ⟨h1 | h1, h2⟩
   ·exact .inl ⟨h1, h2⟩
   ·exact .inr ⟨h1, h2⟩
theorem out_can {l : List Rn} {s : Rn} (hl : RsCan l) (hs : s.Ok) : RsCan (outN l s) := by
 induction l with
 | nil => exact rsc_nil
 | cons a t ih =>
  have hc := rsc_cons.1 hl
  have hi := ih hc.2.2
  have ha := less_is hc.1 hs
  rw [outN_cons]
  refine rsc_append ha.can hi (fun p hp b hb => ?_)
  have h1 := ((ha.mem p.hi).1 ⟨p, hp, (ha.can.ok p hp).pos.le, Int.le_refl _⟩).1
  have h2 := memR_behind hl ((out_mem hc.2.2 hs b.lo).1 ⟨b, hb, Int.le_refl _, (hi.ok b hb).pos.le⟩).1
  have := h1.2
  omega
theorem out_is {l : List Rn} {s : Rn} {S : Int → Prop} (hl : IsRs l S) (hs : s.Ok) : IsRs (outN l s) (fun x => S x ∧ leftP s x) :=
 ⟨out_can hl.can hs, fun x => (out_mem hl.can hs x).trans (and_congr_left fun _ => hl.mem x)⟩
theorem lessN_len {r s : Rn} (hs : s.Ok) : (lessN r s).length ≤ 2 ∧ (¬ r.has s.lo → (lessN r s).length ≤ 1) := by
 have q1 := hs.pos.pl
 have l1 : (lessL r s).length ≤ 1 := by unfold lessL; split <;> simp
 have l2 : (lessH r s).length ≤ 1 := by unfold lessH; split <;> simp
 unfold lessN
 by_cases h : r.lo ≤ s.hi ∧ s.lo ≤ r.hi
 ·rw [if_pos h, List.length_append]
  refine ⟨by omega, fun hn => ?_⟩
  by_cases h3 : s.f = 0 ∧ ¬ s.d = -9223372036854775808 ∧ r.lo ≤ s.d - 1
  ·exact absurd (show r.lo ≤ s.lo ∧ s.lo ≤ r.hi by omega) hn
  ·have : lessL r s = [] := by unfold lessL; rw [if_neg h3]
   rw [this]; simp; omega
 ·rw [if_neg h]; simp
theorem out_len {l : List Rn} {s : Rn} (hl : RsCan l) (hs : s.Ok) : (outN l s).length ≤ l.length + 1 ∧ (¬ memR l s.lo → (outN l s).length ≤ l.length) := by
 induction l with
 | nil => exact ⟨by simp [outN_nil], fun _ => by simp [outN_nil]⟩
 | cons a t ih =>
  have hc := rsc_cons.1 hl
  obtain ⟨h1, h2⟩ := ih hc.2.2
  obtain ⟨h3, h4⟩ := lessN_len (r := a) hs
  rw [outN_cons, List.length_append, List.length_cons]
  by_cases ha : a.has s.lo
  ·have hn : ¬ memR t s.lo := fun hx => by have := memR_behind hl hx; have := ha.2; omega
   have := h2 hn
   exact ⟨by omega, fun q => absurd (memR_cons.2 (.inl ha)) q⟩
  ·have := h4 ha
   refine ⟨by omega, fun q => ?_⟩
   have := h2 (fun hx => q (memR_cons.2 (.inr hx)))
   omega
theorem leftM_add {l : List Rn} {s : Rn} {x : Int} : leftM (l ++ [s]) x ↔ leftM l x ∧ leftP s x := by
 unfold leftM leftP
 rw [memR_append, memR_append, memR_append, memR_one, memR_one, memR_one]
 by_cases h1 : memR l x <;> by_cases h2 : s.has x <;> by_cases h3 : memR l (-9223372036854775808) <;> by_cases h4 : s.has (-9223372036854775808) <;> by_cases h5 : memR l 9223372036854775807 <;> by_cases h6 : s.has 9223372036854775807 <;> simp [h1, h2, h3, h4, h5, h6] <;> omega
end
section -- EnRef
open Go.RowKit
set_option maxRecDepth 100000

set_option maxHeartbeats 1000000 in
theorem refENext_is {f d g e c : Int} (h : StepE true f d g e c) (d0 : -9223372036854775808 ≤ d) (d1 : d ≤ 9223372036854775807) (w : World) :
 Calls Tryz.prog 154 #[.agg #[.int .i8 f, .int .i64 d]] w fun x w' => x = .returned (.tuple #[.agg #[.int .i8 g, .int .i64 e], .int .i64 c]) ∧ Below w.heap.size w w' := by
 have HA := Kp.mk (eb_two w f d 0 0).1
 have HR : Kp (ERow w (w.heap.size + 1) 0 0 ((w.alloc (.cells #[.int .i8 f, .int .i64 d] 24)).alloc (.cells #[.int .i8 0, .int .i64 0] 24))) := Kp.mk (by
  have := erow_new 0 0 (eb_new f d 24 (Below.refl w.heap.size w)).below
  rw [World.size_alloc] at this
  exact this)
 obtain ⟨a, ha⟩ : ∃ a, chkE f d = a := ⟨_, rfl⟩
 have r1 := Kp.mk (fun w => refEChk_is ha w)
 by_cases h0 : a = 0
 ·subst h0
  by_cases h1 : f = 0
  ·by_cases h2 : d = 9223372036854775807
   ·obtain ⟨rfl, rfl, rfl⟩ := h.over h1 h2
    subst h1
    have t2 : (d == 9223372036854775807) = true := by rw [beq_iff_eq]; exact h2
    clear h d0 d1 ha h2
    go_enter Tryz.func154, Tryz.ntmps154
    go_upto_region 1 with fail
    generalize (w.alloc (.cells #[.int .i8 0, .int .i64 d] 24)).alloc (.cells #[.int .i8 0, .int .i64 0] 24) = w0 at *
    have k0 := HA.out.c0
    have k1 := HA.out.c1
    go_wp2_with fail
    refine (r1.out _).mono ?_
    rintro e' w1 ⟨rfl, hbl⟩
    have HA := Kp.mk (HA.out.step hbl)
    have HR := Kp.mk (HR.out.step hbl)
    clear hbl k0 k1
    have k0 := HA.out.c0
    have k1 := HA.out.c1
    go_wp2_with (first
     | refine wpList_store_row' rfl 24 (.tmp 2) (.tmp 18) rfl (w.heap.size + 1) #[.int .i8 0, .int .i64 0] rfl rfl 24 #[.int .i8 0, .int .i64 0] HR.out.heap infoEnd rfl (two_one _ _) ?_)
    refine bodyPost_ret (results_cell_tmp (p := 2) (ty := 24) rfl _ _ (w.heap.size + 1) 24 #[.int .i8 0, .int .i64 0] (0, 0) _ rfl (setRow_heap _ _ _ _ _ _ HR.out.heap) Tryz.underlying24 rfl infoEnd) rfl ?_
    exact ⟨rfl, below_setRow HR.out.below HR.out.base _⟩
   ·obtain ⟨rfl, rfl, rfl⟩ := h.day h1 h2
    subst h1
    have t2 : (d == 9223372036854775807) = false := by rw [beq_eq_false_iff_ne]; exact h2
    have w9 : IntKind.i64.wrap (d + 1) = d + 1 := IntWalk.i64_in _ (by omega)
    clear h d0 d1 ha h2
    go_enter Tryz.func154, Tryz.ntmps154
    go_upto_region 1 with fail
    generalize (w.alloc (.cells #[.int .i8 0, .int .i64 d] 24)).alloc (.cells #[.int .i8 0, .int .i64 0] 24) = w0 at *
    have k0 := HA.out.c0
    have k1 := HA.out.c1
    go_wp2_with fail
    refine (r1.out _).mono ?_
    rintro e' w1 ⟨rfl, hbl⟩
    have HA := Kp.mk (HA.out.step hbl)
    have HR := Kp.mk (HR.out.step hbl)
    clear hbl k0 k1
    have k0 := HA.out.c0
    have k1 := HA.out.c1
    go_wp2_with (first
     | refine wpList_store_row' rfl 24 (.tmp 2) (.tmp 22) rfl (w.heap.size + 1) #[.int .i8 0, .int .i64 (d + 1)] rfl rfl 24 #[.int .i8 0, .int .i64 0] HR.out.heap infoEnd rfl (two_one _ _) ?_)
    refine bodyPost_ret (results_cell_tmp (p := 2) (ty := 24) rfl _ _ (w.heap.size + 1) 24 #[.int .i8 0, .int .i64 (d + 1)] (0, 0) _ rfl (setRow_heap _ _ _ _ _ _ HR.out.heap) Tryz.underlying24 rfl infoEnd) rfl ?_
    exact ⟨rfl, below_setRow HR.out.below HR.out.base _⟩
  ·obtain ⟨rfl, rfl, rfl⟩ := h.inf ha h1
   have t1 : (g != 0) = true := by rw [bne_iff_ne]; exact h1
   clear h d0 d1 ha h1
   go_enter Tryz.func154, Tryz.ntmps154
   go_upto_region 1 with fail
   generalize (w.alloc (.cells #[.int .i8 g, .int .i64 e] 24)).alloc (.cells #[.int .i8 0, .int .i64 0] 24) = w0 at *
   have k0 := HA.out.c0
   have k1 := HA.out.c1
   go_wp2_with fail
   refine (r1.out _).mono ?_
   rintro e' w1 ⟨rfl, hbl⟩
   have HA := Kp.mk (HA.out.step hbl)
   have HR := Kp.mk (HR.out.step hbl)
   clear hbl k0 k1
   have k0 := HA.out.c0
   have k1 := HA.out.c1
   go_wp2_with (first
    | refine wpList_store_row' rfl 24 (.tmp 2) (.tmp 14) rfl (w.heap.size + 1) #[.int .i8 g, .int .i64 e] rfl rfl 24 #[.int .i8 0, .int .i64 0] HR.out.heap infoEnd rfl (two_one _ _) ?_)
   refine bodyPost_ret (results_cell_tmp (p := 2) (ty := 24) rfl _ _ (w.heap.size + 1) 24 #[.int .i8 g, .int .i64 e] (0, 0) _ rfl (setRow_heap _ _ _ _ _ _ HR.out.heap) Tryz.underlying24 rfl infoEnd) rfl ?_
   exact ⟨rfl, below_setRow HR.out.below HR.out.base _⟩
 ·obtain ⟨rfl, rfl, rfl⟩ := h.bad (by rw [ha]; exact h0)
  obtain rfl : a = 5 := by rw [← ha]; unfold chkE at ha ⊢; split at ha <;> first | omega | (rw [if_neg (by assumption)])
  clear h d0 d1 ha h0
  go_enter Tryz.func154, Tryz.ntmps154
  go_upto_region 1 with fail
  generalize (w.alloc (.cells #[.int .i8 f, .int .i64 d] 24)).alloc (.cells #[.int .i8 0, .int .i64 0] 24) = w0 at *
  have k0 := HA.out.c0
  have k1 := HA.out.c1
  go_wp2_with fail
  refine (r1.out _).mono ?_
  rintro e' w1 ⟨rfl, hbl⟩
  have HA := Kp.mk (HA.out.step hbl)
  have HR := Kp.mk (HR.out.step hbl)
  clear hbl k0 k1
  have k0 := HA.out.c0
  have k1 := HA.out.c1
  go_wp2_with (first
   | refine wpList_store_row' rfl 24 (.tmp 2) (.tmp 9) rfl (w.heap.size + 1) #[.int .i8 0, .int .i64 0] rfl rfl 24 #[.int .i8 0, .int .i64 0] HR.out.heap infoEnd rfl (two_one _ _) ?_)
  refine bodyPost_ret (results_cell_tmp (p := 2) (ty := 24) rfl _ _ (w.heap.size + 1) 24 #[.int .i8 0, .int .i64 0] (0, 0) _ rfl (setRow_heap _ _ _ _ _ _ HR.out.heap) Tryz.underlying24 rfl infoEnd) rfl ?_
  exact ⟨rfl, below_setRow HR.out.below HR.out.base _⟩
set_option maxHeartbeats 1000000 in
theorem refEPrev_is {f d g e c : Int} (h : StepE false f d g e c) (d0 : -9223372036854775808 ≤ d) (d1 : d ≤ 9223372036854775807) (w : World) :
 Calls Tryz.prog 153 #[.agg #[.int .i8 f, .int .i64 d]] w fun x w' => x = .returned (.tuple #[.agg #[.int .i8 g, .int .i64 e], .int .i64 c]) ∧ Below w.heap.size w w' := by
 have HA := Kp.mk (eb_two w f d 0 0).1
 have HR : Kp (ERow w (w.heap.size + 1) 0 0 ((w.alloc (.cells #[.int .i8 f, .int .i64 d] 24)).alloc (.cells #[.int .i8 0, .int .i64 0] 24))) := Kp.mk (by
  have := erow_new 0 0 (eb_new f d 24 (Below.refl w.heap.size w)).below
  rw [World.size_alloc] at this
  exact this)
 obtain ⟨a, ha⟩ : ∃ a, chkE f d = a := ⟨_, rfl⟩
 have r1 := Kp.mk (fun w => refEChk_is ha w)
 by_cases h0 : a = 0
 ·subst h0
  by_cases h1 : f = 0
  ·by_cases h2 : d = (-9223372036854775808)
   ·obtain ⟨rfl, rfl, rfl⟩ := h.over h1 h2
    subst h1
    have t2 : (d == (-9223372036854775808)) = true := by rw [beq_iff_eq]; exact h2
    clear h d0 d1 ha h2
    go_enter Tryz.func153, Tryz.ntmps153
    go_upto_region 1 with fail
    generalize (w.alloc (.cells #[.int .i8 0, .int .i64 d] 24)).alloc (.cells #[.int .i8 0, .int .i64 0] 24) = w0 at *
    have k0 := HA.out.c0
    have k1 := HA.out.c1
    go_wp2_with fail
    refine (r1.out _).mono ?_
    rintro e' w1 ⟨rfl, hbl⟩
    have HA := Kp.mk (HA.out.step hbl)
    have HR := Kp.mk (HR.out.step hbl)
    clear hbl k0 k1
    have k0 := HA.out.c0
    have k1 := HA.out.c1
    go_wp2_with (first
     | refine wpList_store_row' rfl 24 (.tmp 2) (.tmp 18) rfl (w.heap.size + 1) #[.int .i8 0, .int .i64 0] rfl rfl 24 #[.int .i8 0, .int .i64 0] HR.out.heap infoEnd rfl (two_one _ _) ?_)
    refine bodyPost_ret (results_cell_tmp (p := 2) (ty := 24) rfl _ _ (w.heap.size + 1) 24 #[.int .i8 0, .int .i64 0] (0, 0) _ rfl (setRow_heap _ _ _ _ _ _ HR.out.heap) Tryz.underlying24 rfl infoEnd) rfl ?_
    exact ⟨rfl, below_setRow HR.out.below HR.out.base _⟩
   ·obtain ⟨rfl, rfl, rfl⟩ := h.day h1 h2
    subst h1
    have t2 : (d == (-9223372036854775808)) = false := by rw [beq_eq_false_iff_ne]; exact h2
    have w9 : IntKind.i64.wrap (d - 1) = d - 1 := IntWalk.i64_in _ (by omega)
    clear h d0 d1 ha h2
    go_enter Tryz.func153, Tryz.ntmps153
    go_upto_region 1 with fail
    generalize (w.alloc (.cells #[.int .i8 0, .int .i64 d] 24)).alloc (.cells #[.int .i8 0, .int .i64 0] 24) = w0 at *
    have k0 := HA.out.c0
    have k1 := HA.out.c1
    go_wp2_with fail
    refine (r1.out _).mono ?_
    rintro e' w1 ⟨rfl, hbl⟩
    have HA := Kp.mk (HA.out.step hbl)
    have HR := Kp.mk (HR.out.step hbl)
    clear hbl k0 k1
    have k0 := HA.out.c0
    have k1 := HA.out.c1
    go_wp2_with (first
     | refine wpList_store_row' rfl 24 (.tmp 2) (.tmp 22) rfl (w.heap.size + 1) #[.int .i8 0, .int .i64 (d - 1)] rfl rfl 24 #[.int .i8 0, .int .i64 0] HR.out.heap infoEnd rfl (two_one _ _) ?_)
    refine bodyPost_ret (results_cell_tmp (p := 2) (ty := 24) rfl _ _ (w.heap.size + 1) 24 #[.int .i8 0, .int .i64 (d - 1)] (0, 0) _ rfl (setRow_heap _ _ _ _ _ _ HR.out.heap) Tryz.underlying24 rfl infoEnd) rfl ?_
    exact ⟨rfl, below_setRow HR.out.below HR.out.base _⟩
  ·obtain ⟨rfl, rfl, rfl⟩ := h.inf ha h1
   have t1 : (g != 0) = true := by rw [bne_iff_ne]; exact h1
   clear h d0 d1 ha h1
   go_enter Tryz.func153, Tryz.ntmps153
   go_upto_region 1 with fail
   generalize (w.alloc (.cells #[.int .i8 g, .int .i64 e] 24)).alloc (.cells #[.int .i8 0, .int .i64 0] 24) = w0 at *
   have k0 := HA.out.c0
   have k1 := HA.out.c1
   go_wp2_with fail
   refine (r1.out _).mono ?_
   rintro e' w1 ⟨rfl, hbl⟩
   have HA := Kp.mk (HA.out.step hbl)
   have HR := Kp.mk (HR.out.step hbl)
   clear hbl k0 k1
   have k0 := HA.out.c0
   have k1 := HA.out.c1
   go_wp2_with (first
    | refine wpList_store_row' rfl 24 (.tmp 2) (.tmp 14) rfl (w.heap.size + 1) #[.int .i8 g, .int .i64 e] rfl rfl 24 #[.int .i8 0, .int .i64 0] HR.out.heap infoEnd rfl (two_one _ _) ?_)
   refine bodyPost_ret (results_cell_tmp (p := 2) (ty := 24) rfl _ _ (w.heap.size + 1) 24 #[.int .i8 g, .int .i64 e] (0, 0) _ rfl (setRow_heap _ _ _ _ _ _ HR.out.heap) Tryz.underlying24 rfl infoEnd) rfl ?_
   exact ⟨rfl, below_setRow HR.out.below HR.out.base _⟩
 ·obtain ⟨rfl, rfl, rfl⟩ := h.bad (by rw [ha]; exact h0)
  obtain rfl : a = 5 := by rw [← ha]; unfold chkE at ha ⊢; split at ha <;> first | omega | (rw [if_neg (by assumption)])
  clear h d0 d1 ha h0
  go_enter Tryz.func153, Tryz.ntmps153
  go_upto_region 1 with fail
  generalize (w.alloc (.cells #[.int .i8 f, .int .i64 d] 24)).alloc (.cells #[.int .i8 0, .int .i64 0] 24) = w0 at *
  have k0 := HA.out.c0
  have k1 := HA.out.c1
  go_wp2_with fail
  refine (r1.out _).mono ?_
  rintro e' w1 ⟨rfl, hbl⟩
  have HA := Kp.mk (HA.out.step hbl)
  have HR := Kp.mk (HR.out.step hbl)
  clear hbl k0 k1
  have k0 := HA.out.c0
  have k1 := HA.out.c1
  go_wp2_with (first
   | refine wpList_store_row' rfl 24 (.tmp 2) (.tmp 9) rfl (w.heap.size + 1) #[.int .i8 0, .int .i64 0] rfl rfl 24 #[.int .i8 0, .int .i64 0] HR.out.heap infoEnd rfl (two_one _ _) ?_)
  refine bodyPost_ret (results_cell_tmp (p := 2) (ty := 24) rfl _ _ (w.heap.size + 1) 24 #[.int .i8 0, .int .i64 0] (0, 0) _ rfl (setRow_heap _ _ _ _ _ _ HR.out.heap) Tryz.underlying24 rfl infoEnd) rfl ?_
  exact ⟨rfl, below_setRow HR.out.below HR.out.base _⟩
end
section -- RsRefL
open Go.RowKit
set_option maxRecDepth 100000

set_option maxHeartbeats 2000000 in
theorem refSLess_no {r s : Rn} (hr : r.Ok) (hs : s.Ok) (h : ¬ (r.lo ≤ s.hi ∧ s.lo ≤ r.hi)) (w : World) :
 Calls Tryz.prog 121 #[.agg #[.int .i8 r.f, .int .i64 r.d, .int .i8 r.g, .int .i64 r.e], .agg #[.int .i8 s.f, .int .i64 s.d, .int .i8 s.g, .int .i64 s.e]] w (LsR w [r]) := by
 have HA := Kp.mk (rg_two w r s).1
 have HC := Kp.mk (rg_two w r s).2
 have HB := Kp.mk (bl_of HA.out)
 have ro := Kp.mk (fun w => refOver_is hr hs (decide_eq_false h) w)
 clear hr hs h
 go_enter Tryz.func121, Tryz.ntmps121
 go_upto_region 1 with fail
 generalize ((w.alloc (.cells #[.int .i8 r.f, .int .i64 r.d, .int .i8 r.g, .int .i64 r.e] 26)).alloc (.cells #[.int .i8 s.f, .int .i64 s.d, .int .i8 s.g, .int .i64 s.e] 26)) = w0 at *
 have kHA0 := HA.out.c0
 have kHA1 := HA.out.c1
 have kHA2 := HA.out.c2
 have kHA3 := HA.out.c3
 have kHC0 := HC.out.c0
 have kHC1 := HC.out.c1
 have kHC2 := HC.out.c2
 have kHC3 := HC.out.c3
 go_wp2_with fail
 refine (ro.out _).mono ?_
 rintro e u1 ⟨rfl, hbl⟩
 clear kHA0 kHA1 kHA2 kHA3 kHC0 kHC1 kHC2 kHC3
 have HB := Kp.mk (HB.out.step hbl)
 have HA := Kp.mk (HA.out.step hbl)
 have HC := Kp.mk (HC.out.step hbl)
 clear hbl
 have kHA0 := HA.out.c0
 have kHA1 := HA.out.c1
 have kHA2 := HA.out.c2
 have kHA3 := HA.out.c3
 have kHC0 := HC.out.c0
 have kHC1 := HC.out.c1
 have kHC2 := HC.out.c2
 have kHC3 := HC.out.c3
 go_wp2_with fail
 go_ret
 exact ⟨⟨_, 1, rfl, fun e => (by cases e), lr_one r HB.out.below⟩, (lr_one r HB.out.below).below⟩
set_option maxHeartbeats 4000000 in
theorem refSLess_over_over {r s : Rn} (hr : r.Ok) (hs : s.Ok) (h : r.lo ≤ s.hi ∧ s.lo ≤ r.hi) (l0 : s.f = 0) (l1 : s.d = -9223372036854775808) (h0 : s.g = 0) (h1 : s.e = 9223372036854775807) (w : World) :
 Calls Tryz.prog 121 #[.agg #[.int .i8 r.f, .int .i64 r.d, .int .i8 r.g, .int .i64 r.e], .agg #[.int .i8 s.f, .int .i64 s.d, .int .i8 s.g, .int .i64 s.e]] w (LsR w []) := by
 obtain ⟨i0, hi0, hz0, hz1, hz2⟩ := infoRn4
 have HA := Kp.mk (rg_two w r s).1
 have HC := Kp.mk (rg_two w r s).2
 have HB := Kp.mk (bl_of HA.out)
 have ro := Kp.mk (fun w => refOver_is hr hs (decide_eq_true h) w)
 have sL : StepE false s.f s.d 0 0 15 := by
  have c0 := chkE_zero (f := s.f) (d := s.d)
  have q := hs.lof
  refine ⟨fun x => absurd (c0.2 (by omega)) x, fun x y => by omega, fun x y => ?_, fun x y => ?_⟩
  ·rw [if_neg (by decide)] at y; omega
  ·rw [if_neg (by decide)] at y; rw [if_neg (by decide)]; omega
 have rp := Kp.mk (fun w => refEPrev_is sL hs.d0 hs.d1 w)
 have sH : StepE true s.g s.e 0 0 15 := by
  have c0 := chkE_zero (f := s.g) (d := s.e)
  have q := hs.hif
  refine ⟨fun x => absurd (c0.2 (by omega)) x, fun x y => by omega, fun x y => ?_, fun x y => ?_⟩
  ·rw [if_pos rfl] at y; omega
  ·rw [if_pos rfl] at y; rw [if_pos rfl]; omega
 have rn := Kp.mk (fun w => refENext_is sH hs.e0 hs.e1 w)
 clear hr hs h sL sH l0 l1 h0 h1
 go_enter Tryz.func121, Tryz.ntmps121
 go_upto_region 1 with fail
 generalize ((w.alloc (.cells #[.int .i8 r.f, .int .i64 r.d, .int .i8 r.g, .int .i64 r.e] 26)).alloc (.cells #[.int .i8 s.f, .int .i64 s.d, .int .i8 s.g, .int .i64 s.e] 26)) = w0 at *
 have kHA0 := HA.out.c0
 have kHA1 := HA.out.c1
 have kHA2 := HA.out.c2
 have kHA3 := HA.out.c3
 have kHC0 := HC.out.c0
 have kHC1 := HC.out.c1
 have kHC2 := HC.out.c2
 have kHC3 := HC.out.c3
 go_wp2_with fail
 refine (ro.out _).mono ?_
 rintro e u1 ⟨rfl, hbl⟩
 clear kHA0 kHA1 kHA2 kHA3 kHC0 kHC1 kHC2 kHC3
 have HB := Kp.mk (HB.out.step hbl)
 have HA := Kp.mk (HA.out.step hbl)
 have HC := Kp.mk (HC.out.step hbl)
 clear hbl
 have kHA0 := HA.out.c0
 have kHA1 := HA.out.c1
 have kHA2 := HA.out.c2
 have kHA3 := HA.out.c3
 have kHC0 := HC.out.c0
 have kHC1 := HC.out.c1
 have kHC2 := HC.out.c2
 have kHC3 := HC.out.c3
 have HA1 := HA
 have HC1 := HC
 have HB1 := HB
 have HG := Kp.mk (ag_new u1)
 go_wp2_with fail
 refine (rp.out _).mono ?_
 rintro e u2 ⟨rfl, hbl⟩
 clear kHA0 kHA1 kHA2 kHA3 kHC0 kHC1 kHC2 kHC3
 have HB := Kp.mk (HB.out.step hbl)
 have HG := Kp.mk (HG.out.step hbl)
 have HA := Kp.mk (HA.out.step hbl)
 have HC := Kp.mk (HC.out.step hbl)
 clear hbl
 have kHA0 := HA.out.c0
 have kHA1 := HA.out.c1
 have kHA2 := HA.out.c2
 have kHA3 := HA.out.c3
 have kHC0 := HC.out.c0
 have kHC1 := HC.out.c1
 have kHC2 := HC.out.c2
 have kHC3 := HC.out.c3
 go_upto_region 5 with fail
 clear kHA0 kHA1 kHA2 kHA3 kHC0 kHC1 kHC2 kHC3
 have HE := Kp.mk (eb_new 0 0 24 HB.out.below)
 have hbl := (Below.refl u2.heap.size u2).alloc (Nat.le_refl _) (.cells #[.int .i8 0, .int .i64 0] 24)
 have HB := Kp.mk (HB.out.step hbl)
 have HG := Kp.mk (HG.out.step hbl)
 have HA := Kp.mk (HA.out.step hbl)
 have HC := Kp.mk (HC.out.step hbl)
 clear hbl
 generalize u2.alloc (.cells #[.int .i8 0, .int .i64 0] 24) = u3 at *
 generalize u2.heap.size = gHE at *
 have kHA0 := HA.out.c0
 have kHA1 := HA.out.c1
 have kHA2 := HA.out.c2
 have kHA3 := HA.out.c3
 have kHC0 := HC.out.c0
 have kHC1 := HC.out.c1
 have kHC2 := HC.out.c2
 have kHC3 := HC.out.c3
 have kHE0 := HE.out.c0
 have kHE1 := HE.out.c1
 go_wp2_with fail
 refine (rn.out _).mono ?_
 rintro e u4 ⟨rfl, hbl⟩
 clear kHA0 kHA1 kHA2 kHA3 kHC0 kHC1 kHC2 kHC3 kHE0 kHE1
 have HB := Kp.mk (HB.out.step hbl)
 have HG := Kp.mk (HG.out.step hbl)
 have HA := Kp.mk (HA.out.step hbl)
 have HC := Kp.mk (HC.out.step hbl)
 have HE := Kp.mk (HE.out.step hbl)
 clear hbl
 have kHA0 := HA.out.c0
 have kHA1 := HA.out.c1
 have kHA2 := HA.out.c2
 have kHA3 := HA.out.c3
 have kHC0 := HC.out.c0
 have kHC1 := HC.out.c1
 have kHC2 := HC.out.c2
 have kHC3 := HC.out.c3
 have kHE0 := HE.out.c0
 have kHE1 := HE.out.c1
 go_upto_region 8 with fail
 clear kHA0 kHA1 kHA2 kHA3 kHC0 kHC1 kHC2 kHC3 kHE0 kHE1
 have HF := Kp.mk (eb_new 0 0 24 HB.out.below)
 have hbl := (Below.refl u4.heap.size u4).alloc (Nat.le_refl _) (.cells #[.int .i8 0, .int .i64 0] 24)
 have HB := Kp.mk (HB.out.step hbl)
 have HG := Kp.mk (HG.out.step hbl)
 have HA := Kp.mk (HA.out.step hbl)
 have HC := Kp.mk (HC.out.step hbl)
 have HE := Kp.mk (HE.out.step hbl)
 clear hbl
 generalize u4.alloc (.cells #[.int .i8 0, .int .i64 0] 24) = u5 at *
 generalize u4.heap.size = gHF at *
 have kHA0 := HA.out.c0
 have kHA1 := HA.out.c1
 have kHA2 := HA.out.c2
 have kHA3 := HA.out.c3
 have kHC0 := HC.out.c0
 have kHC1 := HC.out.c1
 have kHC2 := HC.out.c2
 have kHC3 := HC.out.c3
 have kHE0 := HE.out.c0
 have kHE1 := HE.out.c1
 have kHF0 := HF.out.c0
 have kHF1 := HF.out.c1
 go_wp2_with fail
 go_ret
 exact ls_of HG.out HB1.out.below
set_option maxHeartbeats 4000000 in
theorem refSLess_over_inf {r s : Rn} (hr : r.Ok) (hs : s.Ok) (h : r.lo ≤ s.hi ∧ s.lo ≤ r.hi) (l0 : s.f = 0) (l1 : s.d = -9223372036854775808) (h0 : s.g = 1) (w : World) :
 Calls Tryz.prog 121 #[.agg #[.int .i8 r.f, .int .i64 r.d, .int .i8 r.g, .int .i64 r.e], .agg #[.int .i8 s.f, .int .i64 s.d, .int .i8 s.g, .int .i64 s.e]] w (LsR w []) := by
 obtain ⟨i0, hi0, hz0, hz1, hz2⟩ := infoRn4
 have HA := Kp.mk (rg_two w r s).1
 have HC := Kp.mk (rg_two w r s).2
 have HB := Kp.mk (bl_of HA.out)
 have ro := Kp.mk (fun w => refOver_is hr hs (decide_eq_true h) w)
 have sL : StepE false s.f s.d 0 0 15 := by
  have c0 := chkE_zero (f := s.f) (d := s.d)
  have q := hs.lof
  refine ⟨fun x => absurd (c0.2 (by omega)) x, fun x y => by omega, fun x y => ?_, fun x y => ?_⟩
  ·rw [if_neg (by decide)] at y; omega
  ·rw [if_neg (by decide)] at y; rw [if_neg (by decide)]; omega
 have rp := Kp.mk (fun w => refEPrev_is sL hs.d0 hs.d1 w)
 have sH : StepE true s.g s.e 1 0 0 := by
  have c0 := chkE_zero (f := s.g) (d := s.e)
  have q := hs.hif
  refine ⟨fun x => absurd (c0.2 (by omega)) x, fun x y => by omega, fun x y => ?_, fun x y => ?_⟩
  ·rw [if_pos rfl] at y; omega
  ·rw [if_pos rfl] at y; rw [if_pos rfl]; omega
 have rn := Kp.mk (fun w => refENext_is sH hs.e0 hs.e1 w)
 clear hr hs h sL sH l0 l1 h0
 go_enter Tryz.func121, Tryz.ntmps121
 go_upto_region 1 with fail
 generalize ((w.alloc (.cells #[.int .i8 r.f, .int .i64 r.d, .int .i8 r.g, .int .i64 r.e] 26)).alloc (.cells #[.int .i8 s.f, .int .i64 s.d, .int .i8 s.g, .int .i64 s.e] 26)) = w0 at *
 have kHA0 := HA.out.c0
 have kHA1 := HA.out.c1
 have kHA2 := HA.out.c2
 have kHA3 := HA.out.c3
 have kHC0 := HC.out.c0
 have kHC1 := HC.out.c1
 have kHC2 := HC.out.c2
 have kHC3 := HC.out.c3
 go_wp2_with fail
 refine (ro.out _).mono ?_
 rintro e u1 ⟨rfl, hbl⟩
 clear kHA0 kHA1 kHA2 kHA3 kHC0 kHC1 kHC2 kHC3
 have HB := Kp.mk (HB.out.step hbl)
 have HA := Kp.mk (HA.out.step hbl)
 have HC := Kp.mk (HC.out.step hbl)
 clear hbl
 have kHA0 := HA.out.c0
 have kHA1 := HA.out.c1
 have kHA2 := HA.out.c2
 have kHA3 := HA.out.c3
 have kHC0 := HC.out.c0
 have kHC1 := HC.out.c1
 have kHC2 := HC.out.c2
 have kHC3 := HC.out.c3
 have HA1 := HA
 have HC1 := HC
 have HB1 := HB
 have HG := Kp.mk (ag_new u1)
 go_wp2_with fail
 refine (rp.out _).mono ?_
 rintro e u2 ⟨rfl, hbl⟩
 clear kHA0 kHA1 kHA2 kHA3 kHC0 kHC1 kHC2 kHC3
 have HB := Kp.mk (HB.out.step hbl)
 have HG := Kp.mk (HG.out.step hbl)
 have HA := Kp.mk (HA.out.step hbl)
 have HC := Kp.mk (HC.out.step hbl)
 clear hbl
 have kHA0 := HA.out.c0
 have kHA1 := HA.out.c1
 have kHA2 := HA.out.c2
 have kHA3 := HA.out.c3
 have kHC0 := HC.out.c0
 have kHC1 := HC.out.c1
 have kHC2 := HC.out.c2
 have kHC3 := HC.out.c3
 go_upto_region 5 with fail
 clear kHA0 kHA1 kHA2 kHA3 kHC0 kHC1 kHC2 kHC3
 have HE := Kp.mk (eb_new 0 0 24 HB.out.below)
 have hbl := (Below.refl u2.heap.size u2).alloc (Nat.le_refl _) (.cells #[.int .i8 0, .int .i64 0] 24)
 have HB := Kp.mk (HB.out.step hbl)
 have HG := Kp.mk (HG.out.step hbl)
 have HA := Kp.mk (HA.out.step hbl)
 have HC := Kp.mk (HC.out.step hbl)
 clear hbl
 generalize u2.alloc (.cells #[.int .i8 0, .int .i64 0] 24) = u3 at *
 generalize u2.heap.size = gHE at *
 have kHA0 := HA.out.c0
 have kHA1 := HA.out.c1
 have kHA2 := HA.out.c2
 have kHA3 := HA.out.c3
 have kHC0 := HC.out.c0
 have kHC1 := HC.out.c1
 have kHC2 := HC.out.c2
 have kHC3 := HC.out.c3
 have kHE0 := HE.out.c0
 have kHE1 := HE.out.c1
 go_wp2_with fail
 refine (rn.out _).mono ?_
 rintro e u4 ⟨rfl, hbl⟩
 clear kHA0 kHA1 kHA2 kHA3 kHC0 kHC1 kHC2 kHC3 kHE0 kHE1
 have HB := Kp.mk (HB.out.step hbl)
 have HG := Kp.mk (HG.out.step hbl)
 have HA := Kp.mk (HA.out.step hbl)
 have HC := Kp.mk (HC.out.step hbl)
 have HE := Kp.mk (HE.out.step hbl)
 clear hbl
 have kHA0 := HA.out.c0
 have kHA1 := HA.out.c1
 have kHA2 := HA.out.c2
 have kHA3 := HA.out.c3
 have kHC0 := HC.out.c0
 have kHC1 := HC.out.c1
 have kHC2 := HC.out.c2
 have kHC3 := HC.out.c3
 have kHE0 := HE.out.c0
 have kHE1 := HE.out.c1
 go_upto_region 8 with fail
 clear kHA0 kHA1 kHA2 kHA3 kHC0 kHC1 kHC2 kHC3 kHE0 kHE1
 have HF := Kp.mk (eb_new 1 0 24 HB.out.below)
 have hbl := (Below.refl u4.heap.size u4).alloc (Nat.le_refl _) (.cells #[.int .i8 1, .int .i64 0] 24)
 have HB := Kp.mk (HB.out.step hbl)
 have HG := Kp.mk (HG.out.step hbl)
 have HA := Kp.mk (HA.out.step hbl)
 have HC := Kp.mk (HC.out.step hbl)
 have HE := Kp.mk (HE.out.step hbl)
 clear hbl
 generalize u4.alloc (.cells #[.int .i8 1, .int .i64 0] 24) = u5 at *
 generalize u4.heap.size = gHF at *
 have kHA0 := HA.out.c0
 have kHA1 := HA.out.c1
 have kHA2 := HA.out.c2
 have kHA3 := HA.out.c3
 have kHC0 := HC.out.c0
 have kHC1 := HC.out.c1
 have kHC2 := HC.out.c2
 have kHC3 := HC.out.c3
 have kHE0 := HE.out.c0
 have kHE1 := HE.out.c1
 have kHF0 := HF.out.c0
 have kHF1 := HF.out.c1
 go_wp2_with fail
 go_ret
 exact ls_of HG.out HB1.out.below
set_option maxHeartbeats 4000000 in
theorem refSLess_over_yes {r s : Rn} (hr : r.Ok) (hs : s.Ok) (h : r.lo ≤ s.hi ∧ s.lo ≤ r.hi) (l0 : s.f = 0) (l1 : s.d = -9223372036854775808) (h0 : s.g = 0) (h1 : ¬ s.e = 9223372036854775807) (h2 : s.e + 1 ≤ r.hi) (w : World) :
 Calls Tryz.prog 121 #[.agg #[.int .i8 r.f, .int .i64 r.d, .int .i8 r.g, .int .i64 r.e], .agg #[.int .i8 s.f, .int .i64 s.d, .int .i8 s.g, .int .i64 s.e]] w (LsR w [⟨0, s.e + 1, r.g, r.e⟩]) := by
 obtain ⟨i0, hi0, hz0, hz1, hz2⟩ := infoRn4
 have HA := Kp.mk (rg_two w r s).1
 have HC := Kp.mk (rg_two w r s).2
 have HB := Kp.mk (bl_of HA.out)
 have ro := Kp.mk (fun w => refOver_is hr hs (decide_eq_true h) w)
 have sL : StepE false s.f s.d 0 0 15 := by
  have c0 := chkE_zero (f := s.f) (d := s.d)
  have q := hs.lof
  refine ⟨fun x => absurd (c0.2 (by omega)) x, fun x y => by omega, fun x y => ?_, fun x y => ?_⟩
  ·rw [if_neg (by decide)] at y; omega
  ·rw [if_neg (by decide)] at y; rw [if_neg (by decide)]; omega
 have rp := Kp.mk (fun w => refEPrev_is sL hs.d0 hs.d1 w)
 have sH : StepE true s.g s.e 0 (s.e + 1) 0 := by
  have c0 := chkE_zero (f := s.g) (d := s.e)
  have q := hs.hif
  refine ⟨fun x => absurd (c0.2 (by omega)) x, fun x y => by omega, fun x y => ?_, fun x y => ?_⟩
  ·rw [if_pos rfl] at y; omega
  ·rw [if_pos rfl] at y; rw [if_pos rfl]; omega
 have rn := Kp.mk (fun w => refENext_is sH hs.e0 hs.e1 w)
 have ch : cmpE 0 (s.e + 1) r.g r.e ≤ 0 := by
  rw [cmpE_le]
  have q := hr.pos.ph
  have := hs.e0; have := hs.e1
  omega
 obtain ⟨vh, hvh⟩ : ∃ v, cmpE 0 (s.e + 1) r.g r.e = v := ⟨_, rfl⟩
 rw [hvh] at ch
 have rd := Kp.mk (fun w => refECmp_is hvh w)
 clear hvh
 clear hr hs h sL sH l0 l1 h0 h1 h2
 go_enter Tryz.func121, Tryz.ntmps121
 go_upto_region 1 with fail
 generalize ((w.alloc (.cells #[.int .i8 r.f, .int .i64 r.d, .int .i8 r.g, .int .i64 r.e] 26)).alloc (.cells #[.int .i8 s.f, .int .i64 s.d, .int .i8 s.g, .int .i64 s.e] 26)) = w0 at *
 have kHA0 := HA.out.c0
 have kHA1 := HA.out.c1
 have kHA2 := HA.out.c2
 have kHA3 := HA.out.c3
 have kHC0 := HC.out.c0
 have kHC1 := HC.out.c1
 have kHC2 := HC.out.c2
 have kHC3 := HC.out.c3
 go_wp2_with fail
 refine (ro.out _).mono ?_
 rintro e u1 ⟨rfl, hbl⟩
 clear kHA0 kHA1 kHA2 kHA3 kHC0 kHC1 kHC2 kHC3
 have HB := Kp.mk (HB.out.step hbl)
 have HA := Kp.mk (HA.out.step hbl)
 have HC := Kp.mk (HC.out.step hbl)
 clear hbl
 have kHA0 := HA.out.c0
 have kHA1 := HA.out.c1
 have kHA2 := HA.out.c2
 have kHA3 := HA.out.c3
 have kHC0 := HC.out.c0
 have kHC1 := HC.out.c1
 have kHC2 := HC.out.c2
 have kHC3 := HC.out.c3
 have HA1 := HA
 have HC1 := HC
 have HB1 := HB
 have HG := Kp.mk (ag_new u1)
 go_wp2_with fail
 refine (rp.out _).mono ?_
 rintro e u2 ⟨rfl, hbl⟩
 clear kHA0 kHA1 kHA2 kHA3 kHC0 kHC1 kHC2 kHC3
 have HB := Kp.mk (HB.out.step hbl)
 have HG := Kp.mk (HG.out.step hbl)
 have HA := Kp.mk (HA.out.step hbl)
 have HC := Kp.mk (HC.out.step hbl)
 clear hbl
 have kHA0 := HA.out.c0
 have kHA1 := HA.out.c1
 have kHA2 := HA.out.c2
 have kHA3 := HA.out.c3
 have kHC0 := HC.out.c0
 have kHC1 := HC.out.c1
 have kHC2 := HC.out.c2
 have kHC3 := HC.out.c3
 go_upto_region 5 with fail
 clear kHA0 kHA1 kHA2 kHA3 kHC0 kHC1 kHC2 kHC3
 have HE := Kp.mk (eb_new 0 0 24 HB.out.below)
 have hbl := (Below.refl u2.heap.size u2).alloc (Nat.le_refl _) (.cells #[.int .i8 0, .int .i64 0] 24)
 have HB := Kp.mk (HB.out.step hbl)
 have HG := Kp.mk (HG.out.step hbl)
 have HA := Kp.mk (HA.out.step hbl)
 have HC := Kp.mk (HC.out.step hbl)
 clear hbl
 generalize u2.alloc (.cells #[.int .i8 0, .int .i64 0] 24) = u3 at *
 generalize u2.heap.size = gHE at *
 have kHA0 := HA.out.c0
 have kHA1 := HA.out.c1
 have kHA2 := HA.out.c2
 have kHA3 := HA.out.c3
 have kHC0 := HC.out.c0
 have kHC1 := HC.out.c1
 have kHC2 := HC.out.c2
 have kHC3 := HC.out.c3
 have kHE0 := HE.out.c0
 have kHE1 := HE.out.c1
 go_wp2_with fail
 refine (rn.out _).mono ?_
 rintro e u4 ⟨rfl, hbl⟩
 clear kHA0 kHA1 kHA2 kHA3 kHC0 kHC1 kHC2 kHC3 kHE0 kHE1
 have HB := Kp.mk (HB.out.step hbl)
 have HG := Kp.mk (HG.out.step hbl)
 have HA := Kp.mk (HA.out.step hbl)
 have HC := Kp.mk (HC.out.step hbl)
 have HE := Kp.mk (HE.out.step hbl)
 clear hbl
 have kHA0 := HA.out.c0
 have kHA1 := HA.out.c1
 have kHA2 := HA.out.c2
 have kHA3 := HA.out.c3
 have kHC0 := HC.out.c0
 have kHC1 := HC.out.c1
 have kHC2 := HC.out.c2
 have kHC3 := HC.out.c3
 have kHE0 := HE.out.c0
 have kHE1 := HE.out.c1
 go_upto_region 8 with fail
 clear kHA0 kHA1 kHA2 kHA3 kHC0 kHC1 kHC2 kHC3 kHE0 kHE1
 have HF := Kp.mk (eb_new 0 (s.e + 1) 24 HB.out.below)
 have hbl := (Below.refl u4.heap.size u4).alloc (Nat.le_refl _) (.cells #[.int .i8 0, .int .i64 (s.e + 1)] 24)
 have HB := Kp.mk (HB.out.step hbl)
 have HG := Kp.mk (HG.out.step hbl)
 have HA := Kp.mk (HA.out.step hbl)
 have HC := Kp.mk (HC.out.step hbl)
 have HE := Kp.mk (HE.out.step hbl)
 clear hbl
 generalize u4.alloc (.cells #[.int .i8 0, .int .i64 (s.e + 1)] 24) = u5 at *
 generalize u4.heap.size = gHF at *
 have kHA0 := HA.out.c0
 have kHA1 := HA.out.c1
 have kHA2 := HA.out.c2
 have kHA3 := HA.out.c3
 have kHC0 := HC.out.c0
 have kHC1 := HC.out.c1
 have kHC2 := HC.out.c2
 have kHC3 := HC.out.c3
 have kHE0 := HE.out.c0
 have kHE1 := HE.out.c1
 have kHF0 := HF.out.c0
 have kHF1 := HF.out.c1
 go_wp2_with fail
 refine (rd.out _).mono ?_
 rintro e u6 ⟨rfl, hbl⟩
 clear kHA0 kHA1 kHA2 kHA3 kHC0 kHC1 kHC2 kHC3 kHE0 kHE1 kHF0 kHF1
 have HB := Kp.mk (HB.out.step hbl)
 have HG := Kp.mk (HG.out.step hbl)
 have HA := Kp.mk (HA.out.step hbl)
 have HC := Kp.mk (HC.out.step hbl)
 have HE := Kp.mk (HE.out.step hbl)
 have HF := Kp.mk (HF.out.step hbl)
 clear hbl
 have kHA0 := HA.out.c0
 have kHA1 := HA.out.c1
 have kHA2 := HA.out.c2
 have kHA3 := HA.out.c3
 have kHC0 := HC.out.c0
 have kHC1 := HC.out.c1
 have kHC2 := HC.out.c2
 have kHC3 := HC.out.c3
 have kHE0 := HE.out.c0
 have kHE1 := HE.out.c1
 have kHF0 := HF.out.c0
 have kHF1 := HF.out.c1
 go_wp2_with (at_builtin; refine wpList_append_own _ rfl (.tmp 63) (.tmp 68) 60 rfl u1.heap.size 26 i0 (.agg #[.int .i8 0, .int .i64 0, .int .i8 0, .int .i64 0]) 4 32 Tryz.underlying60 hi0 hz0 hz1 hz2 rfl (by decide) (.slice none 0 0) (([] : List Rn)).length (vL (([] : List Rn))) rfl (HG.out.own.alloc _) ⟨u6.heap.size, 0, none⟩ 1 1 [.int .i8 0, .int .i64 (s.e + 1), .int .i8 r.g, .int .i64 r.e] rfl rfl (four_row _ _ _ _ _ _) (by intro u hu; simp at hu; rcases hu with rfl | rfl | rfl | rfl <;> rfl) (by unfold maxLen; simp) (by simp) (by have := HG.out.below.size; simp; omega) ?_)
 intro v7 u7 hown hgrow _
 clear kHA0 kHA1 kHA2 kHA3 kHC0 kHC1 kHC2 kHC3 kHE0 kHE1 kHF0 kHF1
 have HG := Kp.mk (HG.out.add (r := ⟨0, s.e + 1, r.g, r.e⟩) ((Below.refl u6.heap.size u6).alloc (Nat.le_refl _) (.cells #[.int .i8 0, .int .i64 (s.e + 1), .int .i8 r.g, .int .i64 r.e] 26)) hown hgrow)
 clear hown hgrow
 have HA := Kp.mk (HA1.out.step HG.out.below)
 have HC := Kp.mk (HC1.out.step HG.out.below)
 have HB := Kp.mk (bl_of HA.out)
 have kHA0 := HA.out.c0
 have kHA1 := HA.out.c1
 have kHA2 := HA.out.c2
 have kHA3 := HA.out.c3
 have kHC0 := HC.out.c0
 have kHC1 := HC.out.c1
 have kHC2 := HC.out.c2
 have kHC3 := HC.out.c3
 go_wp2_with fail
 go_ret
 exact ls_of HG.out HB1.out.below
set_option maxHeartbeats 4000000 in
theorem refSLess_over_no {r s : Rn} (hr : r.Ok) (hs : s.Ok) (h : r.lo ≤ s.hi ∧ s.lo ≤ r.hi) (l0 : s.f = 0) (l1 : s.d = -9223372036854775808) (h0 : s.g = 0) (h1 : ¬ s.e = 9223372036854775807) (h2 : ¬ s.e + 1 ≤ r.hi) (w : World) :
 Calls Tryz.prog 121 #[.agg #[.int .i8 r.f, .int .i64 r.d, .int .i8 r.g, .int .i64 r.e], .agg #[.int .i8 s.f, .int .i64 s.d, .int .i8 s.g, .int .i64 s.e]] w (LsR w []) := by
 obtain ⟨i0, hi0, hz0, hz1, hz2⟩ := infoRn4
 have HA := Kp.mk (rg_two w r s).1
 have HC := Kp.mk (rg_two w r s).2
 have HB := Kp.mk (bl_of HA.out)
 have ro := Kp.mk (fun w => refOver_is hr hs (decide_eq_true h) w)
 have sL : StepE false s.f s.d 0 0 15 := by
  have c0 := chkE_zero (f := s.f) (d := s.d)
  have q := hs.lof
  refine ⟨fun x => absurd (c0.2 (by omega)) x, fun x y => by omega, fun x y => ?_, fun x y => ?_⟩
  ·rw [if_neg (by decide)] at y; omega
  ·rw [if_neg (by decide)] at y; rw [if_neg (by decide)]; omega
 have rp := Kp.mk (fun w => refEPrev_is sL hs.d0 hs.d1 w)
 have sH : StepE true s.g s.e 0 (s.e + 1) 0 := by
  have c0 := chkE_zero (f := s.g) (d := s.e)
  have q := hs.hif
  refine ⟨fun x => absurd (c0.2 (by omega)) x, fun x y => by omega, fun x y => ?_, fun x y => ?_⟩
  ·rw [if_pos rfl] at y; omega
  ·rw [if_pos rfl] at y; rw [if_pos rfl]; omega
 have rn := Kp.mk (fun w => refENext_is sH hs.e0 hs.e1 w)
 have ch : ¬ cmpE 0 (s.e + 1) r.g r.e ≤ 0 := by
  rw [cmpE_le]
  have q := hr.pos.ph
  have := hs.e0; have := hs.e1
  omega
 obtain ⟨vh, hvh⟩ : ∃ v, cmpE 0 (s.e + 1) r.g r.e = v := ⟨_, rfl⟩
 rw [hvh] at ch
 have rd := Kp.mk (fun w => refECmp_is hvh w)
 clear hvh
 clear hr hs h sL sH l0 l1 h0 h1 h2
 go_enter Tryz.func121, Tryz.ntmps121
 go_upto_region 1 with fail
 generalize ((w.alloc (.cells #[.int .i8 r.f, .int .i64 r.d, .int .i8 r.g, .int .i64 r.e] 26)).alloc (.cells #[.int .i8 s.f, .int .i64 s.d, .int .i8 s.g, .int .i64 s.e] 26)) = w0 at *
 have kHA0 := HA.out.c0
 have kHA1 := HA.out.c1
 have kHA2 := HA.out.c2
 have kHA3 := HA.out.c3
 have kHC0 := HC.out.c0
 have kHC1 := HC.out.c1
 have kHC2 := HC.out.c2
 have kHC3 := HC.out.c3
 go_wp2_with fail
 refine (ro.out _).mono ?_
 rintro e u1 ⟨rfl, hbl⟩
 clear kHA0 kHA1 kHA2 kHA3 kHC0 kHC1 kHC2 kHC3
 have HB := Kp.mk (HB.out.step hbl)
 have HA := Kp.mk (HA.out.step hbl)
 have HC := Kp.mk (HC.out.step hbl)
 clear hbl
 have kHA0 := HA.out.c0
 have kHA1 := HA.out.c1
 have kHA2 := HA.out.c2
 have kHA3 := HA.out.c3
 have kHC0 := HC.out.c0
 have kHC1 := HC.out.c1
 have kHC2 := HC.out.c2
 have kHC3 := HC.out.c3
 have HA1 := HA
 have HC1 := HC
 have HB1 := HB
 have HG := Kp.mk (ag_new u1)
 go_wp2_with fail
 refine (rp.out _).mono ?_
 rintro e u2 ⟨rfl, hbl⟩
 clear kHA0 kHA1 kHA2 kHA3 kHC0 kHC1 kHC2 kHC3
 have HB := Kp.mk (HB.out.step hbl)
 have HG := Kp.mk (HG.out.step hbl)
 have HA := Kp.mk (HA.out.step hbl)
 have HC := Kp.mk (HC.out.step hbl)
 clear hbl
 have kHA0 := HA.out.c0
 have kHA1 := HA.out.c1
 have kHA2 := HA.out.c2
 have kHA3 := HA.out.c3
 have kHC0 := HC.out.c0
 have kHC1 := HC.out.c1
 have kHC2 := HC.out.c2
 have kHC3 := HC.out.c3
 go_upto_region 5 with fail
 clear kHA0 kHA1 kHA2 kHA3 kHC0 kHC1 kHC2 kHC3
 have HE := Kp.mk (eb_new 0 0 24 HB.out.below)
 have hbl := (Below.refl u2.heap.size u2).alloc (Nat.le_refl _) (.cells #[.int .i8 0, .int .i64 0] 24)
 have HB := Kp.mk (HB.out.step hbl)
 have HG := Kp.mk (HG.out.step hbl)
 have HA := Kp.mk (HA.out.step hbl)
 have HC := Kp.mk (HC.out.step hbl)
 clear hbl
 generalize u2.alloc (.cells #[.int .i8 0, .int .i64 0] 24) = u3 at *
 generalize u2.heap.size = gHE at *
 have kHA0 := HA.out.c0
 have kHA1 := HA.out.c1
 have kHA2 := HA.out.c2
 have kHA3 := HA.out.c3
 have kHC0 := HC.out.c0
 have kHC1 := HC.out.c1
 have kHC2 := HC.out.c2
 have kHC3 := HC.out.c3
 have kHE0 := HE.out.c0
 have kHE1 := HE.out.c1
 go_wp2_with fail
 refine (rn.out _).mono ?_
 rintro e u4 ⟨rfl, hbl⟩
 clear kHA0 kHA1 kHA2 kHA3 kHC0 kHC1 kHC2 kHC3 kHE0 kHE1
 have HB := Kp.mk (HB.out.step hbl)
 have HG := Kp.mk (HG.out.step hbl)
 have HA := Kp.mk (HA.out.step hbl)
 have HC := Kp.mk (HC.out.step hbl)
 have HE := Kp.mk (HE.out.step hbl)
 clear hbl
 have kHA0 := HA.out.c0
 have kHA1 := HA.out.c1
 have kHA2 := HA.out.c2
 have kHA3 := HA.out.c3
 have kHC0 := HC.out.c0
 have kHC1 := HC.out.c1
 have kHC2 := HC.out.c2
 have kHC3 := HC.out.c3
 have kHE0 := HE.out.c0
 have kHE1 := HE.out.c1
 go_upto_region 8 with fail
 clear kHA0 kHA1 kHA2 kHA3 kHC0 kHC1 kHC2 kHC3 kHE0 kHE1
 have HF := Kp.mk (eb_new 0 (s.e + 1) 24 HB.out.below)
 have hbl := (Below.refl u4.heap.size u4).alloc (Nat.le_refl _) (.cells #[.int .i8 0, .int .i64 (s.e + 1)] 24)
 have HB := Kp.mk (HB.out.step hbl)
 have HG := Kp.mk (HG.out.step hbl)
 have HA := Kp.mk (HA.out.step hbl)
 have HC := Kp.mk (HC.out.step hbl)
 have HE := Kp.mk (HE.out.step hbl)
 clear hbl
 generalize u4.alloc (.cells #[.int .i8 0, .int .i64 (s.e + 1)] 24) = u5 at *
 generalize u4.heap.size = gHF at *
 have kHA0 := HA.out.c0
 have kHA1 := HA.out.c1
 have kHA2 := HA.out.c2
 have kHA3 := HA.out.c3
 have kHC0 := HC.out.c0
 have kHC1 := HC.out.c1
 have kHC2 := HC.out.c2
 have kHC3 := HC.out.c3
 have kHE0 := HE.out.c0
 have kHE1 := HE.out.c1
 have kHF0 := HF.out.c0
 have kHF1 := HF.out.c1
 go_wp2_with fail
 refine (rd.out _).mono ?_
 rintro e u6 ⟨rfl, hbl⟩
 clear kHA0 kHA1 kHA2 kHA3 kHC0 kHC1 kHC2 kHC3 kHE0 kHE1 kHF0 kHF1
 have HB := Kp.mk (HB.out.step hbl)
 have HG := Kp.mk (HG.out.step hbl)
 have HA := Kp.mk (HA.out.step hbl)
 have HC := Kp.mk (HC.out.step hbl)
 have HE := Kp.mk (HE.out.step hbl)
 have HF := Kp.mk (HF.out.step hbl)
 clear hbl
 have kHA0 := HA.out.c0
 have kHA1 := HA.out.c1
 have kHA2 := HA.out.c2
 have kHA3 := HA.out.c3
 have kHC0 := HC.out.c0
 have kHC1 := HC.out.c1
 have kHC2 := HC.out.c2
 have kHC3 := HC.out.c3
 have kHE0 := HE.out.c0
 have kHE1 := HE.out.c1
 have kHF0 := HF.out.c0
 have kHF1 := HF.out.c1
 go_wp2_with fail
 go_ret
 exact ls_of HG.out HB1.out.below
set_option maxHeartbeats 4000000 in
theorem refSLess_inf_over {r s : Rn} (hr : r.Ok) (hs : s.Ok) (h : r.lo ≤ s.hi ∧ s.lo ≤ r.hi) (l0 : s.f = -1) (h0 : s.g = 0) (h1 : s.e = 9223372036854775807) (w : World) :
 Calls Tryz.prog 121 #[.agg #[.int .i8 r.f, .int .i64 r.d, .int .i8 r.g, .int .i64 r.e], .agg #[.int .i8 s.f, .int .i64 s.d, .int .i8 s.g, .int .i64 s.e]] w (LsR w []) := by
 obtain ⟨i0, hi0, hz0, hz1, hz2⟩ := infoRn4
 have HA := Kp.mk (rg_two w r s).1
 have HC := Kp.mk (rg_two w r s).2
 have HB := Kp.mk (bl_of HA.out)
 have ro := Kp.mk (fun w => refOver_is hr hs (decide_eq_true h) w)
 have sL : StepE false s.f s.d (-1) 0 0 := by
  have c0 := chkE_zero (f := s.f) (d := s.d)
  have q := hs.lof
  refine ⟨fun x => absurd (c0.2 (by omega)) x, fun x y => by omega, fun x y => ?_, fun x y => ?_⟩
  ·rw [if_neg (by decide)] at y; omega
  ·rw [if_neg (by decide)] at y; rw [if_neg (by decide)]; omega
 have rp := Kp.mk (fun w => refEPrev_is sL hs.d0 hs.d1 w)
 have sH : StepE true s.g s.e 0 0 15 := by
  have c0 := chkE_zero (f := s.g) (d := s.e)
  have q := hs.hif
  refine ⟨fun x => absurd (c0.2 (by omega)) x, fun x y => by omega, fun x y => ?_, fun x y => ?_⟩
  ·rw [if_pos rfl] at y; omega
  ·rw [if_pos rfl] at y; rw [if_pos rfl]; omega
 have rn := Kp.mk (fun w => refENext_is sH hs.e0 hs.e1 w)
 clear hr hs h sL sH l0 h0 h1
 go_enter Tryz.func121, Tryz.ntmps121
 go_upto_region 1 with fail
 generalize ((w.alloc (.cells #[.int .i8 r.f, .int .i64 r.d, .int .i8 r.g, .int .i64 r.e] 26)).alloc (.cells #[.int .i8 s.f, .int .i64 s.d, .int .i8 s.g, .int .i64 s.e] 26)) = w0 at *
 have kHA0 := HA.out.c0
 have kHA1 := HA.out.c1
 have kHA2 := HA.out.c2
 have kHA3 := HA.out.c3
 have kHC0 := HC.out.c0
 have kHC1 := HC.out.c1
 have kHC2 := HC.out.c2
 have kHC3 := HC.out.c3
 go_wp2_with fail
 refine (ro.out _).mono ?_
 rintro e u1 ⟨rfl, hbl⟩
 clear kHA0 kHA1 kHA2 kHA3 kHC0 kHC1 kHC2 kHC3
 have HB := Kp.mk (HB.out.step hbl)
 have HA := Kp.mk (HA.out.step hbl)
 have HC := Kp.mk (HC.out.step hbl)
 clear hbl
 have kHA0 := HA.out.c0
 have kHA1 := HA.out.c1
 have kHA2 := HA.out.c2
 have kHA3 := HA.out.c3
 have kHC0 := HC.out.c0
 have kHC1 := HC.out.c1
 have kHC2 := HC.out.c2
 have kHC3 := HC.out.c3
 have HA1 := HA
 have HC1 := HC
 have HB1 := HB
 have HG := Kp.mk (ag_new u1)
 go_wp2_with fail
 refine (rp.out _).mono ?_
 rintro e u2 ⟨rfl, hbl⟩
 clear kHA0 kHA1 kHA2 kHA3 kHC0 kHC1 kHC2 kHC3
 have HB := Kp.mk (HB.out.step hbl)
 have HG := Kp.mk (HG.out.step hbl)
 have HA := Kp.mk (HA.out.step hbl)
 have HC := Kp.mk (HC.out.step hbl)
 clear hbl
 have kHA0 := HA.out.c0
 have kHA1 := HA.out.c1
 have kHA2 := HA.out.c2
 have kHA3 := HA.out.c3
 have kHC0 := HC.out.c0
 have kHC1 := HC.out.c1
 have kHC2 := HC.out.c2
 have kHC3 := HC.out.c3
 go_upto_region 5 with fail
 clear kHA0 kHA1 kHA2 kHA3 kHC0 kHC1 kHC2 kHC3
 have HE := Kp.mk (eb_new (-1) 0 24 HB.out.below)
 have hbl := (Below.refl u2.heap.size u2).alloc (Nat.le_refl _) (.cells #[.int .i8 (-1), .int .i64 0] 24)
 have HB := Kp.mk (HB.out.step hbl)
 have HG := Kp.mk (HG.out.step hbl)
 have HA := Kp.mk (HA.out.step hbl)
 have HC := Kp.mk (HC.out.step hbl)
 clear hbl
 generalize u2.alloc (.cells #[.int .i8 (-1), .int .i64 0] 24) = u3 at *
 generalize u2.heap.size = gHE at *
 have kHA0 := HA.out.c0
 have kHA1 := HA.out.c1
 have kHA2 := HA.out.c2
 have kHA3 := HA.out.c3
 have kHC0 := HC.out.c0
 have kHC1 := HC.out.c1
 have kHC2 := HC.out.c2
 have kHC3 := HC.out.c3
 have kHE0 := HE.out.c0
 have kHE1 := HE.out.c1
 go_wp2_with fail
 refine (rn.out _).mono ?_
 rintro e u4 ⟨rfl, hbl⟩
 clear kHA0 kHA1 kHA2 kHA3 kHC0 kHC1 kHC2 kHC3 kHE0 kHE1
 have HB := Kp.mk (HB.out.step hbl)
 have HG := Kp.mk (HG.out.step hbl)
 have HA := Kp.mk (HA.out.step hbl)
 have HC := Kp.mk (HC.out.step hbl)
 have HE := Kp.mk (HE.out.step hbl)
 clear hbl
 have kHA0 := HA.out.c0
 have kHA1 := HA.out.c1
 have kHA2 := HA.out.c2
 have kHA3 := HA.out.c3
 have kHC0 := HC.out.c0
 have kHC1 := HC.out.c1
 have kHC2 := HC.out.c2
 have kHC3 := HC.out.c3
 have kHE0 := HE.out.c0
 have kHE1 := HE.out.c1
 go_upto_region 8 with fail
 clear kHA0 kHA1 kHA2 kHA3 kHC0 kHC1 kHC2 kHC3 kHE0 kHE1
 have HF := Kp.mk (eb_new 0 0 24 HB.out.below)
 have hbl := (Below.refl u4.heap.size u4).alloc (Nat.le_refl _) (.cells #[.int .i8 0, .int .i64 0] 24)
 have HB := Kp.mk (HB.out.step hbl)
 have HG := Kp.mk (HG.out.step hbl)
 have HA := Kp.mk (HA.out.step hbl)
 have HC := Kp.mk (HC.out.step hbl)
 have HE := Kp.mk (HE.out.step hbl)
 clear hbl
 generalize u4.alloc (.cells #[.int .i8 0, .int .i64 0] 24) = u5 at *
 generalize u4.heap.size = gHF at *
 have kHA0 := HA.out.c0
 have kHA1 := HA.out.c1
 have kHA2 := HA.out.c2
 have kHA3 := HA.out.c3
 have kHC0 := HC.out.c0
 have kHC1 := HC.out.c1
 have kHC2 := HC.out.c2
 have kHC3 := HC.out.c3
 have kHE0 := HE.out.c0
 have kHE1 := HE.out.c1
 have kHF0 := HF.out.c0
 have kHF1 := HF.out.c1
 go_wp2_with fail
 go_ret
 exact ls_of HG.out HB1.out.below
set_option maxHeartbeats 4000000 in
theorem refSLess_inf_inf {r s : Rn} (hr : r.Ok) (hs : s.Ok) (h : r.lo ≤ s.hi ∧ s.lo ≤ r.hi) (l0 : s.f = -1) (h0 : s.g = 1) (w : World) :
 Calls Tryz.prog 121 #[.agg #[.int .i8 r.f, .int .i64 r.d, .int .i8 r.g, .int .i64 r.e], .agg #[.int .i8 s.f, .int .i64 s.d, .int .i8 s.g, .int .i64 s.e]] w (LsR w []) := by
 obtain ⟨i0, hi0, hz0, hz1, hz2⟩ := infoRn4
 have HA := Kp.mk (rg_two w r s).1
 have HC := Kp.mk (rg_two w r s).2
 have HB := Kp.mk (bl_of HA.out)
 have ro := Kp.mk (fun w => refOver_is hr hs (decide_eq_true h) w)
 have sL : StepE false s.f s.d (-1) 0 0 := by
  have c0 := chkE_zero (f := s.f) (d := s.d)
  have q := hs.lof
  refine ⟨fun x => absurd (c0.2 (by omega)) x, fun x y => by omega, fun x y => ?_, fun x y => ?_⟩
  ·rw [if_neg (by decide)] at y; omega
  ·rw [if_neg (by decide)] at y; rw [if_neg (by decide)]; omega
 have rp := Kp.mk (fun w => refEPrev_is sL hs.d0 hs.d1 w)
 have sH : StepE true s.g s.e 1 0 0 := by
  have c0 := chkE_zero (f := s.g) (d := s.e)
  have q := hs.hif
  refine ⟨fun x => absurd (c0.2 (by omega)) x, fun x y => by omega, fun x y => ?_, fun x y => ?_⟩
  ·rw [if_pos rfl] at y; omega
  ·rw [if_pos rfl] at y; rw [if_pos rfl]; omega
 have rn := Kp.mk (fun w => refENext_is sH hs.e0 hs.e1 w)
 clear hr hs h sL sH l0 h0
 go_enter Tryz.func121, Tryz.ntmps121
 go_upto_region 1 with fail
 generalize ((w.alloc (.cells #[.int .i8 r.f, .int .i64 r.d, .int .i8 r.g, .int .i64 r.e] 26)).alloc (.cells #[.int .i8 s.f, .int .i64 s.d, .int .i8 s.g, .int .i64 s.e] 26)) = w0 at *
 have kHA0 := HA.out.c0
 have kHA1 := HA.out.c1
 have kHA2 := HA.out.c2
 have kHA3 := HA.out.c3
 have kHC0 := HC.out.c0
 have kHC1 := HC.out.c1
 have kHC2 := HC.out.c2
 have kHC3 := HC.out.c3
 go_wp2_with fail
 refine (ro.out _).mono ?_
 rintro e u1 ⟨rfl, hbl⟩
 clear kHA0 kHA1 kHA2 kHA3 kHC0 kHC1 kHC2 kHC3
 have HB := Kp.mk (HB.out.step hbl)
 have HA := Kp.mk (HA.out.step hbl)
 have HC := Kp.mk (HC.out.step hbl)
 clear hbl
 have kHA0 := HA.out.c0
 have kHA1 := HA.out.c1
 have kHA2 := HA.out.c2
 have kHA3 := HA.out.c3
 have kHC0 := HC.out.c0
 have kHC1 := HC.out.c1
 have kHC2 := HC.out.c2
 have kHC3 := HC.out.c3
 have HA1 := HA
 have HC1 := HC
 have HB1 := HB
 have HG := Kp.mk (ag_new u1)
 go_wp2_with fail
 refine (rp.out _).mono ?_
 rintro e u2 ⟨rfl, hbl⟩
 clear kHA0 kHA1 kHA2 kHA3 kHC0 kHC1 kHC2 kHC3
 have HB := Kp.mk (HB.out.step hbl)
 have HG := Kp.mk (HG.out.step hbl)
 have HA := Kp.mk (HA.out.step hbl)
 have HC := Kp.mk (HC.out.step hbl)
 clear hbl
 have kHA0 := HA.out.c0
 have kHA1 := HA.out.c1
 have kHA2 := HA.out.c2
 have kHA3 := HA.out.c3
 have kHC0 := HC.out.c0
 have kHC1 := HC.out.c1
 have kHC2 := HC.out.c2
 have kHC3 := HC.out.c3
 go_upto_region 5 with fail
 clear kHA0 kHA1 kHA2 kHA3 kHC0 kHC1 kHC2 kHC3
 have HE := Kp.mk (eb_new (-1) 0 24 HB.out.below)
 have hbl := (Below.refl u2.heap.size u2).alloc (Nat.le_refl _) (.cells #[.int .i8 (-1), .int .i64 0] 24)
 have HB := Kp.mk (HB.out.step hbl)
 have HG := Kp.mk (HG.out.step hbl)
 have HA := Kp.mk (HA.out.step hbl)
 have HC := Kp.mk (HC.out.step hbl)
 clear hbl
 generalize u2.alloc (.cells #[.int .i8 (-1), .int .i64 0] 24) = u3 at *
 generalize u2.heap.size = gHE at *
 have kHA0 := HA.out.c0
 have kHA1 := HA.out.c1
 have kHA2 := HA.out.c2
 have kHA3 := HA.out.c3
 have kHC0 := HC.out.c0
 have kHC1 := HC.out.c1
 have kHC2 := HC.out.c2
 have kHC3 := HC.out.c3
 have kHE0 := HE.out.c0
 have kHE1 := HE.out.c1
 go_wp2_with fail
 refine (rn.out _).mono ?_
 rintro e u4 ⟨rfl, hbl⟩
 clear kHA0 kHA1 kHA2 kHA3 kHC0 kHC1 kHC2 kHC3 kHE0 kHE1
 have HB := Kp.mk (HB.out.step hbl)
 have HG := Kp.mk (HG.out.step hbl)
 have HA := Kp.mk (HA.out.step hbl)
 have HC := Kp.mk (HC.out.step hbl)
 have HE := Kp.mk (HE.out.step hbl)
 clear hbl
 have kHA0 := HA.out.c0
 have kHA1 := HA.out.c1
 have kHA2 := HA.out.c2
 have kHA3 := HA.out.c3
 have kHC0 := HC.out.c0
 have kHC1 := HC.out.c1
 have kHC2 := HC.out.c2
 have kHC3 := HC.out.c3
 have kHE0 := HE.out.c0
 have kHE1 := HE.out.c1
 go_upto_region 8 with fail
 clear kHA0 kHA1 kHA2 kHA3 kHC0 kHC1 kHC2 kHC3 kHE0 kHE1
 have HF := Kp.mk (eb_new 1 0 24 HB.out.below)
 have hbl := (Below.refl u4.heap.size u4).alloc (Nat.le_refl _) (.cells #[.int .i8 1, .int .i64 0] 24)
 have HB := Kp.mk (HB.out.step hbl)
 have HG := Kp.mk (HG.out.step hbl)
 have HA := Kp.mk (HA.out.step hbl)
 have HC := Kp.mk (HC.out.step hbl)
 have HE := Kp.mk (HE.out.step hbl)
 clear hbl
 generalize u4.alloc (.cells #[.int .i8 1, .int .i64 0] 24) = u5 at *
 generalize u4.heap.size = gHF at *
 have kHA0 := HA.out.c0
 have kHA1 := HA.out.c1
 have kHA2 := HA.out.c2
 have kHA3 := HA.out.c3
 have kHC0 := HC.out.c0
 have kHC1 := HC.out.c1
 have kHC2 := HC.out.c2
 have kHC3 := HC.out.c3
 have kHE0 := HE.out.c0
 have kHE1 := HE.out.c1
 have kHF0 := HF.out.c0
 have kHF1 := HF.out.c1
 go_wp2_with fail
 go_ret
 exact ls_of HG.out HB1.out.below
set_option maxHeartbeats 4000000 in
theorem refSLess_inf_yes {r s : Rn} (hr : r.Ok) (hs : s.Ok) (h : r.lo ≤ s.hi ∧ s.lo ≤ r.hi) (l0 : s.f = -1) (h0 : s.g = 0) (h1 : ¬ s.e = 9223372036854775807) (h2 : s.e + 1 ≤ r.hi) (w : World) :
 Calls Tryz.prog 121 #[.agg #[.int .i8 r.f, .int .i64 r.d, .int .i8 r.g, .int .i64 r.e], .agg #[.int .i8 s.f, .int .i64 s.d, .int .i8 s.g, .int .i64 s.e]] w (LsR w [⟨0, s.e + 1, r.g, r.e⟩]) := by
 obtain ⟨i0, hi0, hz0, hz1, hz2⟩ := infoRn4
 have HA := Kp.mk (rg_two w r s).1
 have HC := Kp.mk (rg_two w r s).2
 have HB := Kp.mk (bl_of HA.out)
 have ro := Kp.mk (fun w => refOver_is hr hs (decide_eq_true h) w)
 have sL : StepE false s.f s.d (-1) 0 0 := by
  have c0 := chkE_zero (f := s.f) (d := s.d)
  have q := hs.lof
  refine ⟨fun x => absurd (c0.2 (by omega)) x, fun x y => by omega, fun x y => ?_, fun x y => ?_⟩
  ·rw [if_neg (by decide)] at y; omega
  ·rw [if_neg (by decide)] at y; rw [if_neg (by decide)]; omega
 have rp := Kp.mk (fun w => refEPrev_is sL hs.d0 hs.d1 w)
 have sH : StepE true s.g s.e 0 (s.e + 1) 0 := by
  have c0 := chkE_zero (f := s.g) (d := s.e)
  have q := hs.hif
  refine ⟨fun x => absurd (c0.2 (by omega)) x, fun x y => by omega, fun x y => ?_, fun x y => ?_⟩
  ·rw [if_pos rfl] at y; omega
  ·rw [if_pos rfl] at y; rw [if_pos rfl]; omega
 have rn := Kp.mk (fun w => refENext_is sH hs.e0 hs.e1 w)
 have ch : cmpE 0 (s.e + 1) r.g r.e ≤ 0 := by
  rw [cmpE_le]
  have q := hr.pos.ph
  have := hs.e0; have := hs.e1
  omega
 obtain ⟨vh, hvh⟩ : ∃ v, cmpE 0 (s.e + 1) r.g r.e = v := ⟨_, rfl⟩
 rw [hvh] at ch
 have rd := Kp.mk (fun w => refECmp_is hvh w)
 clear hvh
 clear hr hs h sL sH l0 h0 h1 h2
 go_enter Tryz.func121, Tryz.ntmps121
 go_upto_region 1 with fail
 generalize ((w.alloc (.cells #[.int .i8 r.f, .int .i64 r.d, .int .i8 r.g, .int .i64 r.e] 26)).alloc (.cells #[.int .i8 s.f, .int .i64 s.d, .int .i8 s.g, .int .i64 s.e] 26)) = w0 at *
 have kHA0 := HA.out.c0
 have kHA1 := HA.out.c1
 have kHA2 := HA.out.c2
 have kHA3 := HA.out.c3
 have kHC0 := HC.out.c0
 have kHC1 := HC.out.c1
 have kHC2 := HC.out.c2
 have kHC3 := HC.out.c3
 go_wp2_with fail
 refine (ro.out _).mono ?_
 rintro e u1 ⟨rfl, hbl⟩
 clear kHA0 kHA1 kHA2 kHA3 kHC0 kHC1 kHC2 kHC3
 have HB := Kp.mk (HB.out.step hbl)
 have HA := Kp.mk (HA.out.step hbl)
 have HC := Kp.mk (HC.out.step hbl)
 clear hbl
 have kHA0 := HA.out.c0
 have kHA1 := HA.out.c1
 have kHA2 := HA.out.c2
 have kHA3 := HA.out.c3
 have kHC0 := HC.out.c0
 have kHC1 := HC.out.c1
 have kHC2 := HC.out.c2
 have kHC3 := HC.out.c3
 have HA1 := HA
 have HC1 := HC
 have HB1 := HB
 have HG := Kp.mk (ag_new u1)
 go_wp2_with fail
 refine (rp.out _).mono ?_
 rintro e u2 ⟨rfl, hbl⟩
 clear kHA0 kHA1 kHA2 kHA3 kHC0 kHC1 kHC2 kHC3
 have HB := Kp.mk (HB.out.step hbl)
 have HG := Kp.mk (HG.out.step hbl)
 have HA := Kp.mk (HA.out.step hbl)
 have HC := Kp.mk (HC.out.step hbl)
 clear hbl
 have kHA0 := HA.out.c0
 have kHA1 := HA.out.c1
 have kHA2 := HA.out.c2
 have kHA3 := HA.out.c3
 have kHC0 := HC.out.c0
 have kHC1 := HC.out.c1
 have kHC2 := HC.out.c2
 have kHC3 := HC.out.c3
 go_upto_region 5 with fail
 clear kHA0 kHA1 kHA2 kHA3 kHC0 kHC1 kHC2 kHC3
 have HE := Kp.mk (eb_new (-1) 0 24 HB.out.below)
 have hbl := (Below.refl u2.heap.size u2).alloc (Nat.le_refl _) (.cells #[.int .i8 (-1), .int .i64 0] 24)
 have HB := Kp.mk (HB.out.step hbl)
 have HG := Kp.mk (HG.out.step hbl)
 have HA := Kp.mk (HA.out.step hbl)
 have HC := Kp.mk (HC.out.step hbl)
 clear hbl
 generalize u2.alloc (.cells #[.int .i8 (-1), .int .i64 0] 24) = u3 at *
 generalize u2.heap.size = gHE at *
 have kHA0 := HA.out.c0
 have kHA1 := HA.out.c1
 have kHA2 := HA.out.c2
 have kHA3 := HA.out.c3
 have kHC0 := HC.out.c0
 have kHC1 := HC.out.c1
 have kHC2 := HC.out.c2
 have kHC3 := HC.out.c3
 have kHE0 := HE.out.c0
 have kHE1 := HE.out.c1
 go_wp2_with fail
 refine (rn.out _).mono ?_
 rintro e u4 ⟨rfl, hbl⟩
 clear kHA0 kHA1 kHA2 kHA3 kHC0 kHC1 kHC2 kHC3 kHE0 kHE1
 have HB := Kp.mk (HB.out.step hbl)
 have HG := Kp.mk (HG.out.step hbl)
 have HA := Kp.mk (HA.out.step hbl)
 have HC := Kp.mk (HC.out.step hbl)
 have HE := Kp.mk (HE.out.step hbl)
 clear hbl
 have kHA0 := HA.out.c0
 have kHA1 := HA.out.c1
 have kHA2 := HA.out.c2
 have kHA3 := HA.out.c3
 have kHC0 := HC.out.c0
 have kHC1 := HC.out.c1
 have kHC2 := HC.out.c2
 have kHC3 := HC.out.c3
 have kHE0 := HE.out.c0
 have kHE1 := HE.out.c1
 go_upto_region 8 with fail
 clear kHA0 kHA1 kHA2 kHA3 kHC0 kHC1 kHC2 kHC3 kHE0 kHE1
 have HF := Kp.mk (eb_new 0 (s.e + 1) 24 HB.out.below)
 have hbl := (Below.refl u4.heap.size u4).alloc (Nat.le_refl _) (.cells #[.int .i8 0, .int .i64 (s.e + 1)] 24)
 have HB := Kp.mk (HB.out.step hbl)
 have HG := Kp.mk (HG.out.step hbl)
 have HA := Kp.mk (HA.out.step hbl)
 have HC := Kp.mk (HC.out.step hbl)
 have HE := Kp.mk (HE.out.step hbl)
 clear hbl
 generalize u4.alloc (.cells #[.int .i8 0, .int .i64 (s.e + 1)] 24) = u5 at *
 generalize u4.heap.size = gHF at *
 have kHA0 := HA.out.c0
 have kHA1 := HA.out.c1
 have kHA2 := HA.out.c2
 have kHA3 := HA.out.c3
 have kHC0 := HC.out.c0
 have kHC1 := HC.out.c1
 have kHC2 := HC.out.c2
 have kHC3 := HC.out.c3
 have kHE0 := HE.out.c0
 have kHE1 := HE.out.c1
 have kHF0 := HF.out.c0
 have kHF1 := HF.out.c1
 go_wp2_with fail
 refine (rd.out _).mono ?_
 rintro e u6 ⟨rfl, hbl⟩
 clear kHA0 kHA1 kHA2 kHA3 kHC0 kHC1 kHC2 kHC3 kHE0 kHE1 kHF0 kHF1
 have HB := Kp.mk (HB.out.step hbl)
 have HG := Kp.mk (HG.out.step hbl)
 have HA := Kp.mk (HA.out.step hbl)
 have HC := Kp.mk (HC.out.step hbl)
 have HE := Kp.mk (HE.out.step hbl)
 have HF := Kp.mk (HF.out.step hbl)
 clear hbl
 have kHA0 := HA.out.c0
 have kHA1 := HA.out.c1
 have kHA2 := HA.out.c2
 have kHA3 := HA.out.c3
 have kHC0 := HC.out.c0
 have kHC1 := HC.out.c1
 have kHC2 := HC.out.c2
 have kHC3 := HC.out.c3
 have kHE0 := HE.out.c0
 have kHE1 := HE.out.c1
 have kHF0 := HF.out.c0
 have kHF1 := HF.out.c1
 go_wp2_with (at_builtin; refine wpList_append_own _ rfl (.tmp 63) (.tmp 68) 60 rfl u1.heap.size 26 i0 (.agg #[.int .i8 0, .int .i64 0, .int .i8 0, .int .i64 0]) 4 32 Tryz.underlying60 hi0 hz0 hz1 hz2 rfl (by decide) (.slice none 0 0) (([] : List Rn)).length (vL (([] : List Rn))) rfl (HG.out.own.alloc _) ⟨u6.heap.size, 0, none⟩ 1 1 [.int .i8 0, .int .i64 (s.e + 1), .int .i8 r.g, .int .i64 r.e] rfl rfl (four_row _ _ _ _ _ _) (by intro u hu; simp at hu; rcases hu with rfl | rfl | rfl | rfl <;> rfl) (by unfold maxLen; simp) (by simp) (by have := HG.out.below.size; simp; omega) ?_)
 intro v7 u7 hown hgrow _
 clear kHA0 kHA1 kHA2 kHA3 kHC0 kHC1 kHC2 kHC3 kHE0 kHE1 kHF0 kHF1
 have HG := Kp.mk (HG.out.add (r := ⟨0, s.e + 1, r.g, r.e⟩) ((Below.refl u6.heap.size u6).alloc (Nat.le_refl _) (.cells #[.int .i8 0, .int .i64 (s.e + 1), .int .i8 r.g, .int .i64 r.e] 26)) hown hgrow)
 clear hown hgrow
 have HA := Kp.mk (HA1.out.step HG.out.below)
 have HC := Kp.mk (HC1.out.step HG.out.below)
 have HB := Kp.mk (bl_of HA.out)
 have kHA0 := HA.out.c0
 have kHA1 := HA.out.c1
 have kHA2 := HA.out.c2
 have kHA3 := HA.out.c3
 have kHC0 := HC.out.c0
 have kHC1 := HC.out.c1
 have kHC2 := HC.out.c2
 have kHC3 := HC.out.c3
 go_wp2_with fail
 go_ret
 exact ls_of HG.out HB1.out.below
set_option maxHeartbeats 4000000 in
theorem refSLess_inf_no {r s : Rn} (hr : r.Ok) (hs : s.Ok) (h : r.lo ≤ s.hi ∧ s.lo ≤ r.hi) (l0 : s.f = -1) (h0 : s.g = 0) (h1 : ¬ s.e = 9223372036854775807) (h2 : ¬ s.e + 1 ≤ r.hi) (w : World) :
 Calls Tryz.prog 121 #[.agg #[.int .i8 r.f, .int .i64 r.d, .int .i8 r.g, .int .i64 r.e], .agg #[.int .i8 s.f, .int .i64 s.d, .int .i8 s.g, .int .i64 s.e]] w (LsR w []) := by
 obtain ⟨i0, hi0, hz0, hz1, hz2⟩ := infoRn4
 have HA := Kp.mk (rg_two w r s).1
 have HC := Kp.mk (rg_two w r s).2
 have HB := Kp.mk (bl_of HA.out)
 have ro := Kp.mk (fun w => refOver_is hr hs (decide_eq_true h) w)
 have sL : StepE false s.f s.d (-1) 0 0 := by
  have c0 := chkE_zero (f := s.f) (d := s.d)
  have q := hs.lof
  refine ⟨fun x => absurd (c0.2 (by omega)) x, fun x y => by omega, fun x y => ?_, fun x y => ?_⟩
  ·rw [if_neg (by decide)] at y; omega
  ·rw [if_neg (by decide)] at y; rw [if_neg (by decide)]; omega
 have rp := Kp.mk (fun w => refEPrev_is sL hs.d0 hs.d1 w)
 have sH : StepE true s.g s.e 0 (s.e + 1) 0 := by
  have c0 := chkE_zero (f := s.g) (d := s.e)
  have q := hs.hif
  refine ⟨fun x => absurd (c0.2 (by omega)) x, fun x y => by omega, fun x y => ?_, fun x y => ?_⟩
  ·rw [if_pos rfl] at y; omega
  ·rw [if_pos rfl] at y; rw [if_pos rfl]; omega
 have rn := Kp.mk (fun w => refENext_is sH hs.e0 hs.e1 w)
 have ch : ¬ cmpE 0 (s.e + 1) r.g r.e ≤ 0 := by
  rw [cmpE_le]
  have q := hr.pos.ph
  have := hs.e0; have := hs.e1
  omega
 obtain ⟨vh, hvh⟩ : ∃ v, cmpE 0 (s.e + 1) r.g r.e = v := ⟨_, rfl⟩
 rw [hvh] at ch
 have rd := Kp.mk (fun w => refECmp_is hvh w)
 clear hvh
 clear hr hs h sL sH l0 h0 h1 h2
 go_enter Tryz.func121, Tryz.ntmps121
 go_upto_region 1 with fail
 generalize ((w.alloc (.cells #[.int .i8 r.f, .int .i64 r.d, .int .i8 r.g, .int .i64 r.e] 26)).alloc (.cells #[.int .i8 s.f, .int .i64 s.d, .int .i8 s.g, .int .i64 s.e] 26)) = w0 at *
 have kHA0 := HA.out.c0
 have kHA1 := HA.out.c1
 have kHA2 := HA.out.c2
 have kHA3 := HA.out.c3
 have kHC0 := HC.out.c0
 have kHC1 := HC.out.c1
 have kHC2 := HC.out.c2
 have kHC3 := HC.out.c3
 go_wp2_with fail
 refine (ro.out _).mono ?_
 rintro e u1 ⟨rfl, hbl⟩
 clear kHA0 kHA1 kHA2 kHA3 kHC0 kHC1 kHC2 kHC3
 have HB := Kp.mk (HB.out.step hbl)
 have HA := Kp.mk (HA.out.step hbl)
 have HC := Kp.mk (HC.out.step hbl)
 clear hbl
 have kHA0 := HA.out.c0
 have kHA1 := HA.out.c1
 have kHA2 := HA.out.c2
 have kHA3 := HA.out.c3
 have kHC0 := HC.out.c0
 have kHC1 := HC.out.c1
 have kHC2 := HC.out.c2
 have kHC3 := HC.out.c3
 have HA1 := HA
 have HC1 := HC
 have HB1 := HB
 have HG := Kp.mk (ag_new u1)
 go_wp2_with fail
 refine (rp.out _).mono ?_
 rintro e u2 ⟨rfl, hbl⟩
 clear kHA0 kHA1 kHA2 kHA3 kHC0 kHC1 kHC2 kHC3
 have HB := Kp.mk (HB.out.step hbl)
 have HG := Kp.mk (HG.out.step hbl)
 have HA := Kp.mk (HA.out.step hbl)
 have HC := Kp.mk (HC.out.step hbl)
 clear hbl
 have kHA0 := HA.out.c0
 have kHA1 := HA.out.c1
 have kHA2 := HA.out.c2
 have kHA3 := HA.out.c3
 have kHC0 := HC.out.c0
 have kHC1 := HC.out.c1
 have kHC2 := HC.out.c2
 have kHC3 := HC.out.c3
 go_upto_region 5 with fail
 clear kHA0 kHA1 kHA2 kHA3 kHC0 kHC1 kHC2 kHC3
 have HE := Kp.mk (eb_new (-1) 0 24 HB.out.below)
 have hbl := (Below.refl u2.heap.size u2).alloc (Nat.le_refl _) (.cells #[.int .i8 (-1), .int .i64 0] 24)
 have HB := Kp.mk (HB.out.step hbl)
 have HG := Kp.mk (HG.out.step hbl)
 have HA := Kp.mk (HA.out.step hbl)
 have HC := Kp.mk (HC.out.step hbl)
 clear hbl
 generalize u2.alloc (.cells #[.int .i8 (-1), .int .i64 0] 24) = u3 at *
 generalize u2.heap.size = gHE at *
 have kHA0 := HA.out.c0
 have kHA1 := HA.out.c1
 have kHA2 := HA.out.c2
 have kHA3 := HA.out.c3
 have kHC0 := HC.out.c0
 have kHC1 := HC.out.c1
 have kHC2 := HC.out.c2
 have kHC3 := HC.out.c3
 have kHE0 := HE.out.c0
 have kHE1 := HE.out.c1
 go_wp2_with fail
 refine (rn.out _).mono ?_
 rintro e u4 ⟨rfl, hbl⟩
 clear kHA0 kHA1 kHA2 kHA3 kHC0 kHC1 kHC2 kHC3 kHE0 kHE1
 have HB := Kp.mk (HB.out.step hbl)
 have HG := Kp.mk (HG.out.step hbl)
 have HA := Kp.mk (HA.out.step hbl)
 have HC := Kp.mk (HC.out.step hbl)
 have HE := Kp.mk (HE.out.step hbl)
 clear hbl
 have kHA0 := HA.out.c0
 have kHA1 := HA.out.c1
 have kHA2 := HA.out.c2
 have kHA3 := HA.out.c3
 have kHC0 := HC.out.c0
 have kHC1 := HC.out.c1
 have kHC2 := HC.out.c2
 have kHC3 := HC.out.c3
 have kHE0 := HE.out.c0
 have kHE1 := HE.out.c1
 go_upto_region 8 with fail
 clear kHA0 kHA1 kHA2 kHA3 kHC0 kHC1 kHC2 kHC3 kHE0 kHE1
 have HF := Kp.mk (eb_new 0 (s.e + 1) 24 HB.out.below)
 have hbl := (Below.refl u4.heap.size u4).alloc (Nat.le_refl _) (.cells #[.int .i8 0, .int .i64 (s.e + 1)] 24)
 have HB := Kp.mk (HB.out.step hbl)
 have HG := Kp.mk (HG.out.step hbl)
 have HA := Kp.mk (HA.out.step hbl)
 have HC := Kp.mk (HC.out.step hbl)
 have HE := Kp.mk (HE.out.step hbl)
 clear hbl
 generalize u4.alloc (.cells #[.int .i8 0, .int .i64 (s.e + 1)] 24) = u5 at *
 generalize u4.heap.size = gHF at *
 have kHA0 := HA.out.c0
 have kHA1 := HA.out.c1
 have kHA2 := HA.out.c2
 have kHA3 := HA.out.c3
 have kHC0 := HC.out.c0
 have kHC1 := HC.out.c1
 have kHC2 := HC.out.c2
 have kHC3 := HC.out.c3
 have kHE0 := HE.out.c0
 have kHE1 := HE.out.c1
 have kHF0 := HF.out.c0
 have kHF1 := HF.out.c1
 go_wp2_with fail
 refine (rd.out _).mono ?_
 rintro e u6 ⟨rfl, hbl⟩
 clear kHA0 kHA1 kHA2 kHA3 kHC0 kHC1 kHC2 kHC3 kHE0 kHE1 kHF0 kHF1
 have HB := Kp.mk (HB.out.step hbl)
 have HG := Kp.mk (HG.out.step hbl)
 have HA := Kp.mk (HA.out.step hbl)
 have HC := Kp.mk (HC.out.step hbl)
 have HE := Kp.mk (HE.out.step hbl)
 have HF := Kp.mk (HF.out.step hbl)
 clear hbl
 have kHA0 := HA.out.c0
 have kHA1 := HA.out.c1
 have kHA2 := HA.out.c2
 have kHA3 := HA.out.c3
 have kHC0 := HC.out.c0
 have kHC1 := HC.out.c1
 have kHC2 := HC.out.c2
 have kHC3 := HC.out.c3
 have kHE0 := HE.out.c0
 have kHE1 := HE.out.c1
 have kHF0 := HF.out.c0
 have kHF1 := HF.out.c1
 go_wp2_with fail
 go_ret
 exact ls_of HG.out HB1.out.below
set_option maxHeartbeats 4000000 in
theorem refSLess_yes_over {r s : Rn} (hr : r.Ok) (hs : s.Ok) (h : r.lo ≤ s.hi ∧ s.lo ≤ r.hi) (l0 : s.f = 0) (l1 : ¬ s.d = -9223372036854775808) (l2 : r.lo ≤ s.d - 1) (h0 : s.g = 0) (h1 : s.e = 9223372036854775807) (w : World) :
 Calls Tryz.prog 121 #[.agg #[.int .i8 r.f, .int .i64 r.d, .int .i8 r.g, .int .i64 r.e], .agg #[.int .i8 s.f, .int .i64 s.d, .int .i8 s.g, .int .i64 s.e]] w (LsR w [⟨r.f, r.d, 0, s.d - 1⟩]) := by
 obtain ⟨i0, hi0, hz0, hz1, hz2⟩ := infoRn4
 have HA := Kp.mk (rg_two w r s).1
 have HC := Kp.mk (rg_two w r s).2
 have HB := Kp.mk (bl_of HA.out)
 have ro := Kp.mk (fun w => refOver_is hr hs (decide_eq_true h) w)
 have sL : StepE false s.f s.d 0 (s.d - 1) 0 := by
  have c0 := chkE_zero (f := s.f) (d := s.d)
  have q := hs.lof
  refine ⟨fun x => absurd (c0.2 (by omega)) x, fun x y => by omega, fun x y => ?_, fun x y => ?_⟩
  ·rw [if_neg (by decide)] at y; omega
  ·rw [if_neg (by decide)] at y; rw [if_neg (by decide)]; omega
 have rp := Kp.mk (fun w => refEPrev_is sL hs.d0 hs.d1 w)
 have cl : cmpE r.f r.d 0 (s.d - 1) ≤ 0 := by
  rw [cmpE_le]
  have q := hr.pos.pl
  have := hs.d0; have := hs.d1
  omega
 obtain ⟨vl, hvl⟩ : ∃ v, cmpE r.f r.d 0 (s.d - 1) = v := ⟨_, rfl⟩
 rw [hvl] at cl
 have rc := Kp.mk (fun w => refECmp_is hvl w)
 clear hvl
 have sH : StepE true s.g s.e 0 0 15 := by
  have c0 := chkE_zero (f := s.g) (d := s.e)
  have q := hs.hif
  refine ⟨fun x => absurd (c0.2 (by omega)) x, fun x y => by omega, fun x y => ?_, fun x y => ?_⟩
  ·rw [if_pos rfl] at y; omega
  ·rw [if_pos rfl] at y; rw [if_pos rfl]; omega
 have rn := Kp.mk (fun w => refENext_is sH hs.e0 hs.e1 w)
 clear hr hs h sL sH l0 l1 l2 h0 h1
 go_enter Tryz.func121, Tryz.ntmps121
 go_upto_region 1 with fail
 generalize ((w.alloc (.cells #[.int .i8 r.f, .int .i64 r.d, .int .i8 r.g, .int .i64 r.e] 26)).alloc (.cells #[.int .i8 s.f, .int .i64 s.d, .int .i8 s.g, .int .i64 s.e] 26)) = w0 at *
 have kHA0 := HA.out.c0
 have kHA1 := HA.out.c1
 have kHA2 := HA.out.c2
 have kHA3 := HA.out.c3
 have kHC0 := HC.out.c0
 have kHC1 := HC.out.c1
 have kHC2 := HC.out.c2
 have kHC3 := HC.out.c3
 go_wp2_with fail
 refine (ro.out _).mono ?_
 rintro e u1 ⟨rfl, hbl⟩
 clear kHA0 kHA1 kHA2 kHA3 kHC0 kHC1 kHC2 kHC3
 have HB := Kp.mk (HB.out.step hbl)
 have HA := Kp.mk (HA.out.step hbl)
 have HC := Kp.mk (HC.out.step hbl)
 clear hbl
 have kHA0 := HA.out.c0
 have kHA1 := HA.out.c1
 have kHA2 := HA.out.c2
 have kHA3 := HA.out.c3
 have kHC0 := HC.out.c0
 have kHC1 := HC.out.c1
 have kHC2 := HC.out.c2
 have kHC3 := HC.out.c3
 have HA1 := HA
 have HC1 := HC
 have HB1 := HB
 have HG := Kp.mk (ag_new u1)
 go_wp2_with fail
 refine (rp.out _).mono ?_
 rintro e u2 ⟨rfl, hbl⟩
 clear kHA0 kHA1 kHA2 kHA3 kHC0 kHC1 kHC2 kHC3
 have HB := Kp.mk (HB.out.step hbl)
 have HG := Kp.mk (HG.out.step hbl)
 have HA := Kp.mk (HA.out.step hbl)
 have HC := Kp.mk (HC.out.step hbl)
 clear hbl
 have kHA0 := HA.out.c0
 have kHA1 := HA.out.c1
 have kHA2 := HA.out.c2
 have kHA3 := HA.out.c3
 have kHC0 := HC.out.c0
 have kHC1 := HC.out.c1
 have kHC2 := HC.out.c2
 have kHC3 := HC.out.c3
 go_upto_region 5 with fail
 clear kHA0 kHA1 kHA2 kHA3 kHC0 kHC1 kHC2 kHC3
 have HE := Kp.mk (eb_new 0 (s.d - 1) 24 HB.out.below)
 have hbl := (Below.refl u2.heap.size u2).alloc (Nat.le_refl _) (.cells #[.int .i8 0, .int .i64 (s.d - 1)] 24)
 have HB := Kp.mk (HB.out.step hbl)
 have HG := Kp.mk (HG.out.step hbl)
 have HA := Kp.mk (HA.out.step hbl)
 have HC := Kp.mk (HC.out.step hbl)
 clear hbl
 generalize u2.alloc (.cells #[.int .i8 0, .int .i64 (s.d - 1)] 24) = u3 at *
 generalize u2.heap.size = gHE at *
 have kHA0 := HA.out.c0
 have kHA1 := HA.out.c1
 have kHA2 := HA.out.c2
 have kHA3 := HA.out.c3
 have kHC0 := HC.out.c0
 have kHC1 := HC.out.c1
 have kHC2 := HC.out.c2
 have kHC3 := HC.out.c3
 have kHE0 := HE.out.c0
 have kHE1 := HE.out.c1
 go_wp2_with fail
 refine (rc.out _).mono ?_
 rintro e u4 ⟨rfl, hbl⟩
 clear kHA0 kHA1 kHA2 kHA3 kHC0 kHC1 kHC2 kHC3 kHE0 kHE1
 have HB := Kp.mk (HB.out.step hbl)
 have HG := Kp.mk (HG.out.step hbl)
 have HA := Kp.mk (HA.out.step hbl)
 have HC := Kp.mk (HC.out.step hbl)
 have HE := Kp.mk (HE.out.step hbl)
 clear hbl
 have kHA0 := HA.out.c0
 have kHA1 := HA.out.c1
 have kHA2 := HA.out.c2
 have kHA3 := HA.out.c3
 have kHC0 := HC.out.c0
 have kHC1 := HC.out.c1
 have kHC2 := HC.out.c2
 have kHC3 := HC.out.c3
 have kHE0 := HE.out.c0
 have kHE1 := HE.out.c1
 go_wp2_with (at_builtin; refine wpList_append_own _ rfl (.tmp 36) (.tmp 41) 60 rfl u1.heap.size 26 i0 (.agg #[.int .i8 0, .int .i64 0, .int .i8 0, .int .i64 0]) 4 32 Tryz.underlying60 hi0 hz0 hz1 hz2 rfl (by decide) (.slice none 0 0) (([] : List Rn)).length (vL (([] : List Rn))) rfl (HG.out.own.alloc _) ⟨u4.heap.size, 0, none⟩ 1 1 [.int .i8 r.f, .int .i64 r.d, .int .i8 0, .int .i64 (s.d - 1)] rfl rfl (four_row _ _ _ _ _ _) (by intro u hu; simp at hu; rcases hu with rfl | rfl | rfl | rfl <;> rfl) (by unfold maxLen; simp) (by simp) (by have := HG.out.below.size; simp; omega) ?_)
 intro v5 u5 hown hgrow _
 clear kHA0 kHA1 kHA2 kHA3 kHC0 kHC1 kHC2 kHC3 kHE0 kHE1
 have HG := Kp.mk (HG.out.add (r := ⟨r.f, r.d, 0, s.d - 1⟩) ((Below.refl u4.heap.size u4).alloc (Nat.le_refl _) (.cells #[.int .i8 r.f, .int .i64 r.d, .int .i8 0, .int .i64 (s.d - 1)] 26)) hown hgrow)
 clear hown hgrow
 have HA := Kp.mk (HA1.out.step HG.out.below)
 have HC := Kp.mk (HC1.out.step HG.out.below)
 have HB := Kp.mk (bl_of HA.out)
 have kHA0 := HA.out.c0
 have kHA1 := HA.out.c1
 have kHA2 := HA.out.c2
 have kHA3 := HA.out.c3
 have kHC0 := HC.out.c0
 have kHC1 := HC.out.c1
 have kHC2 := HC.out.c2
 have kHC3 := HC.out.c3
 go_wp2_with fail
 refine (rn.out _).mono ?_
 rintro e u6 ⟨rfl, hbl⟩
 clear kHA0 kHA1 kHA2 kHA3 kHC0 kHC1 kHC2 kHC3
 have HB := Kp.mk (HB.out.step hbl)
 have HG := Kp.mk (HG.out.step hbl)
 have HA := Kp.mk (HA.out.step hbl)
 have HC := Kp.mk (HC.out.step hbl)
 clear hbl
 have kHA0 := HA.out.c0
 have kHA1 := HA.out.c1
 have kHA2 := HA.out.c2
 have kHA3 := HA.out.c3
 have kHC0 := HC.out.c0
 have kHC1 := HC.out.c1
 have kHC2 := HC.out.c2
 have kHC3 := HC.out.c3
 go_upto_region 8 with fail
 clear kHA0 kHA1 kHA2 kHA3 kHC0 kHC1 kHC2 kHC3
 have HF := Kp.mk (eb_new 0 0 24 HB.out.below)
 have hbl := (Below.refl u6.heap.size u6).alloc (Nat.le_refl _) (.cells #[.int .i8 0, .int .i64 0] 24)
 have HB := Kp.mk (HB.out.step hbl)
 have HG := Kp.mk (HG.out.step hbl)
 have HA := Kp.mk (HA.out.step hbl)
 have HC := Kp.mk (HC.out.step hbl)
 clear hbl
 generalize u6.alloc (.cells #[.int .i8 0, .int .i64 0] 24) = u7 at *
 generalize u6.heap.size = gHF at *
 have kHA0 := HA.out.c0
 have kHA1 := HA.out.c1
 have kHA2 := HA.out.c2
 have kHA3 := HA.out.c3
 have kHC0 := HC.out.c0
 have kHC1 := HC.out.c1
 have kHC2 := HC.out.c2
 have kHC3 := HC.out.c3
 have kHF0 := HF.out.c0
 have kHF1 := HF.out.c1
 go_wp2_with fail
 go_ret
 exact ls_of HG.out HB1.out.below
set_option maxHeartbeats 4000000 in
theorem refSLess_yes_inf {r s : Rn} (hr : r.Ok) (hs : s.Ok) (h : r.lo ≤ s.hi ∧ s.lo ≤ r.hi) (l0 : s.f = 0) (l1 : ¬ s.d = -9223372036854775808) (l2 : r.lo ≤ s.d - 1) (h0 : s.g = 1) (w : World) :
 Calls Tryz.prog 121 #[.agg #[.int .i8 r.f, .int .i64 r.d, .int .i8 r.g, .int .i64 r.e], .agg #[.int .i8 s.f, .int .i64 s.d, .int .i8 s.g, .int .i64 s.e]] w (LsR w [⟨r.f, r.d, 0, s.d - 1⟩]) := by
 obtain ⟨i0, hi0, hz0, hz1, hz2⟩ := infoRn4
 have HA := Kp.mk (rg_two w r s).1
 have HC := Kp.mk (rg_two w r s).2
 have HB := Kp.mk (bl_of HA.out)
 have ro := Kp.mk (fun w => refOver_is hr hs (decide_eq_true h) w)
 have sL : StepE false s.f s.d 0 (s.d - 1) 0 := by
  have c0 := chkE_zero (f := s.f) (d := s.d)
  have q := hs.lof
  refine ⟨fun x => absurd (c0.2 (by omega)) x, fun x y => by omega, fun x y => ?_, fun x y => ?_⟩
  ·rw [if_neg (by decide)] at y; omega
  ·rw [if_neg (by decide)] at y; rw [if_neg (by decide)]; omega
 have rp := Kp.mk (fun w => refEPrev_is sL hs.d0 hs.d1 w)
 have cl : cmpE r.f r.d 0 (s.d - 1) ≤ 0 := by
  rw [cmpE_le]
  have q := hr.pos.pl
  have := hs.d0; have := hs.d1
  omega
 obtain ⟨vl, hvl⟩ : ∃ v, cmpE r.f r.d 0 (s.d - 1) = v := ⟨_, rfl⟩
 rw [hvl] at cl
 have rc := Kp.mk (fun w => refECmp_is hvl w)
 clear hvl
 have sH : StepE true s.g s.e 1 0 0 := by
  have c0 := chkE_zero (f := s.g) (d := s.e)
  have q := hs.hif
  refine ⟨fun x => absurd (c0.2 (by omega)) x, fun x y => by omega, fun x y => ?_, fun x y => ?_⟩
  ·rw [if_pos rfl] at y; omega
  ·rw [if_pos rfl] at y; rw [if_pos rfl]; omega
 have rn := Kp.mk (fun w => refENext_is sH hs.e0 hs.e1 w)
 clear hr hs h sL sH l0 l1 l2 h0
 go_enter Tryz.func121, Tryz.ntmps121
 go_upto_region 1 with fail
 generalize ((w.alloc (.cells #[.int .i8 r.f, .int .i64 r.d, .int .i8 r.g, .int .i64 r.e] 26)).alloc (.cells #[.int .i8 s.f, .int .i64 s.d, .int .i8 s.g, .int .i64 s.e] 26)) = w0 at *
 have kHA0 := HA.out.c0
 have kHA1 := HA.out.c1
 have kHA2 := HA.out.c2
 have kHA3 := HA.out.c3
 have kHC0 := HC.out.c0
 have kHC1 := HC.out.c1
 have kHC2 := HC.out.c2
 have kHC3 := HC.out.c3
 go_wp2_with fail
 refine (ro.out _).mono ?_
 rintro e u1 ⟨rfl, hbl⟩
 clear kHA0 kHA1 kHA2 kHA3 kHC0 kHC1 kHC2 kHC3
 have HB := Kp.mk (HB.out.step hbl)
 have HA := Kp.mk (HA.out.step hbl)
 have HC := Kp.mk (HC.out.step hbl)
 clear hbl
 have kHA0 := HA.out.c0
 have kHA1 := HA.out.c1
 have kHA2 := HA.out.c2
 have kHA3 := HA.out.c3
 have kHC0 := HC.out.c0
 have kHC1 := HC.out.c1
 have kHC2 := HC.out.c2
 have kHC3 := HC.out.c3
 have HA1 := HA
 have HC1 := HC
 have HB1 := HB
 have HG := Kp.mk (ag_new u1)
 go_wp2_with fail
 refine (rp.out _).mono ?_
 rintro e u2 ⟨rfl, hbl⟩
 clear kHA0 kHA1 kHA2 kHA3 kHC0 kHC1 kHC2 kHC3
 have HB := Kp.mk (HB.out.step hbl)
 have HG := Kp.mk (HG.out.step hbl)
 have HA := Kp.mk (HA.out.step hbl)
 have HC := Kp.mk (HC.out.step hbl)
 clear hbl
 have kHA0 := HA.out.c0
 have kHA1 := HA.out.c1
 have kHA2 := HA.out.c2
 have kHA3 := HA.out.c3
 have kHC0 := HC.out.c0
 have kHC1 := HC.out.c1
 have kHC2 := HC.out.c2
 have kHC3 := HC.out.c3
 go_upto_region 5 with fail
 clear kHA0 kHA1 kHA2 kHA3 kHC0 kHC1 kHC2 kHC3
 have HE := Kp.mk (eb_new 0 (s.d - 1) 24 HB.out.below)
 have hbl := (Below.refl u2.heap.size u2).alloc (Nat.le_refl _) (.cells #[.int .i8 0, .int .i64 (s.d - 1)] 24)
 have HB := Kp.mk (HB.out.step hbl)
 have HG := Kp.mk (HG.out.step hbl)
 have HA := Kp.mk (HA.out.step hbl)
 have HC := Kp.mk (HC.out.step hbl)
 clear hbl
 generalize u2.alloc (.cells #[.int .i8 0, .int .i64 (s.d - 1)] 24) = u3 at *
 generalize u2.heap.size = gHE at *
 have kHA0 := HA.out.c0
 have kHA1 := HA.out.c1
 have kHA2 := HA.out.c2
 have kHA3 := HA.out.c3
 have kHC0 := HC.out.c0
 have kHC1 := HC.out.c1
 have kHC2 := HC.out.c2
 have kHC3 := HC.out.c3
 have kHE0 := HE.out.c0
 have kHE1 := HE.out.c1
 go_wp2_with fail
 refine (rc.out _).mono ?_
 rintro e u4 ⟨rfl, hbl⟩
 clear kHA0 kHA1 kHA2 kHA3 kHC0 kHC1 kHC2 kHC3 kHE0 kHE1
 have HB := Kp.mk (HB.out.step hbl)
 have HG := Kp.mk (HG.out.step hbl)
 have HA := Kp.mk (HA.out.step hbl)
 have HC := Kp.mk (HC.out.step hbl)
 have HE := Kp.mk (HE.out.step hbl)
 clear hbl
 have kHA0 := HA.out.c0
 have kHA1 := HA.out.c1
 have kHA2 := HA.out.c2
 have kHA3 := HA.out.c3
 have kHC0 := HC.out.c0
 have kHC1 := HC.out.c1
 have kHC2 := HC.out.c2
 have kHC3 := HC.out.c3
 have kHE0 := HE.out.c0
 have kHE1 := HE.out.c1
 go_wp2_with (at_builtin; refine wpList_append_own _ rfl (.tmp 36) (.tmp 41) 60 rfl u1.heap.size 26 i0 (.agg #[.int .i8 0, .int .i64 0, .int .i8 0, .int .i64 0]) 4 32 Tryz.underlying60 hi0 hz0 hz1 hz2 rfl (by decide) (.slice none 0 0) (([] : List Rn)).length (vL (([] : List Rn))) rfl (HG.out.own.alloc _) ⟨u4.heap.size, 0, none⟩ 1 1 [.int .i8 r.f, .int .i64 r.d, .int .i8 0, .int .i64 (s.d - 1)] rfl rfl (four_row _ _ _ _ _ _) (by intro u hu; simp at hu; rcases hu with rfl | rfl | rfl | rfl <;> rfl) (by unfold maxLen; simp) (by simp) (by have := HG.out.below.size; simp; omega) ?_)
 intro v5 u5 hown hgrow _
 clear kHA0 kHA1 kHA2 kHA3 kHC0 kHC1 kHC2 kHC3 kHE0 kHE1
 have HG := Kp.mk (HG.out.add (r := ⟨r.f, r.d, 0, s.d - 1⟩) ((Below.refl u4.heap.size u4).alloc (Nat.le_refl _) (.cells #[.int .i8 r.f, .int .i64 r.d, .int .i8 0, .int .i64 (s.d - 1)] 26)) hown hgrow)
 clear hown hgrow
 have HA := Kp.mk (HA1.out.step HG.out.below)
 have HC := Kp.mk (HC1.out.step HG.out.below)
 have HB := Kp.mk (bl_of HA.out)
 have kHA0 := HA.out.c0
 have kHA1 := HA.out.c1
 have kHA2 := HA.out.c2
 have kHA3 := HA.out.c3
 have kHC0 := HC.out.c0
 have kHC1 := HC.out.c1
 have kHC2 := HC.out.c2
 have kHC3 := HC.out.c3
 go_wp2_with fail
 refine (rn.out _).mono ?_
 rintro e u6 ⟨rfl, hbl⟩
 clear kHA0 kHA1 kHA2 kHA3 kHC0 kHC1 kHC2 kHC3
 have HB := Kp.mk (HB.out.step hbl)
 have HG := Kp.mk (HG.out.step hbl)
 have HA := Kp.mk (HA.out.step hbl)
 have HC := Kp.mk (HC.out.step hbl)
 clear hbl
 have kHA0 := HA.out.c0
 have kHA1 := HA.out.c1
 have kHA2 := HA.out.c2
 have kHA3 := HA.out.c3
 have kHC0 := HC.out.c0
 have kHC1 := HC.out.c1
 have kHC2 := HC.out.c2
 have kHC3 := HC.out.c3
 go_upto_region 8 with fail
 clear kHA0 kHA1 kHA2 kHA3 kHC0 kHC1 kHC2 kHC3
 have HF := Kp.mk (eb_new 1 0 24 HB.out.below)
 have hbl := (Below.refl u6.heap.size u6).alloc (Nat.le_refl _) (.cells #[.int .i8 1, .int .i64 0] 24)
 have HB := Kp.mk (HB.out.step hbl)
 have HG := Kp.mk (HG.out.step hbl)
 have HA := Kp.mk (HA.out.step hbl)
 have HC := Kp.mk (HC.out.step hbl)
 clear hbl
 generalize u6.alloc (.cells #[.int .i8 1, .int .i64 0] 24) = u7 at *
 generalize u6.heap.size = gHF at *
 have kHA0 := HA.out.c0
 have kHA1 := HA.out.c1
 have kHA2 := HA.out.c2
 have kHA3 := HA.out.c3
 have kHC0 := HC.out.c0
 have kHC1 := HC.out.c1
 have kHC2 := HC.out.c2
 have kHC3 := HC.out.c3
 have kHF0 := HF.out.c0
 have kHF1 := HF.out.c1
 go_wp2_with fail
 go_ret
 exact ls_of HG.out HB1.out.below
set_option maxHeartbeats 4000000 in
theorem refSLess_yes_yes {r s : Rn} (hr : r.Ok) (hs : s.Ok) (h : r.lo ≤ s.hi ∧ s.lo ≤ r.hi) (l0 : s.f = 0) (l1 : ¬ s.d = -9223372036854775808) (l2 : r.lo ≤ s.d - 1) (h0 : s.g = 0) (h1 : ¬ s.e = 9223372036854775807) (h2 : s.e + 1 ≤ r.hi) (w : World) :
 Calls Tryz.prog 121 #[.agg #[.int .i8 r.f, .int .i64 r.d, .int .i8 r.g, .int .i64 r.e], .agg #[.int .i8 s.f, .int .i64 s.d, .int .i8 s.g, .int .i64 s.e]] w (LsR w [⟨r.f, r.d, 0, s.d - 1⟩, ⟨0, s.e + 1, r.g, r.e⟩]) := by
 obtain ⟨i0, hi0, hz0, hz1, hz2⟩ := infoRn4
 have HA := Kp.mk (rg_two w r s).1
 have HC := Kp.mk (rg_two w r s).2
 have HB := Kp.mk (bl_of HA.out)
 have ro := Kp.mk (fun w => refOver_is hr hs (decide_eq_true h) w)
 have sL : StepE false s.f s.d 0 (s.d - 1) 0 := by
  have c0 := chkE_zero (f := s.f) (d := s.d)
  have q := hs.lof
  refine ⟨fun x => absurd (c0.2 (by omega)) x, fun x y => by omega, fun x y => ?_, fun x y => ?_⟩
  ·rw [if_neg (by decide)] at y; omega
  ·rw [if_neg (by decide)] at y; rw [if_neg (by decide)]; omega
 have rp := Kp.mk (fun w => refEPrev_is sL hs.d0 hs.d1 w)
 have cl : cmpE r.f r.d 0 (s.d - 1) ≤ 0 := by
  rw [cmpE_le]
  have q := hr.pos.pl
  have := hs.d0; have := hs.d1
  omega
 obtain ⟨vl, hvl⟩ : ∃ v, cmpE r.f r.d 0 (s.d - 1) = v := ⟨_, rfl⟩
 rw [hvl] at cl
 have rc := Kp.mk (fun w => refECmp_is hvl w)
 clear hvl
 have sH : StepE true s.g s.e 0 (s.e + 1) 0 := by
  have c0 := chkE_zero (f := s.g) (d := s.e)
  have q := hs.hif
  refine ⟨fun x => absurd (c0.2 (by omega)) x, fun x y => by omega, fun x y => ?_, fun x y => ?_⟩
  ·rw [if_pos rfl] at y; omega
  ·rw [if_pos rfl] at y; rw [if_pos rfl]; omega
 have rn := Kp.mk (fun w => refENext_is sH hs.e0 hs.e1 w)
 have ch : cmpE 0 (s.e + 1) r.g r.e ≤ 0 := by
  rw [cmpE_le]
  have q := hr.pos.ph
  have := hs.e0; have := hs.e1
  omega
 obtain ⟨vh, hvh⟩ : ∃ v, cmpE 0 (s.e + 1) r.g r.e = v := ⟨_, rfl⟩
 rw [hvh] at ch
 have rd := Kp.mk (fun w => refECmp_is hvh w)
 clear hvh
 clear hr hs h sL sH l0 l1 l2 h0 h1 h2
 go_enter Tryz.func121, Tryz.ntmps121
 go_upto_region 1 with fail
 generalize ((w.alloc (.cells #[.int .i8 r.f, .int .i64 r.d, .int .i8 r.g, .int .i64 r.e] 26)).alloc (.cells #[.int .i8 s.f, .int .i64 s.d, .int .i8 s.g, .int .i64 s.e] 26)) = w0 at *
 have kHA0 := HA.out.c0
 have kHA1 := HA.out.c1
 have kHA2 := HA.out.c2
 have kHA3 := HA.out.c3
 have kHC0 := HC.out.c0
 have kHC1 := HC.out.c1
 have kHC2 := HC.out.c2
 have kHC3 := HC.out.c3
 go_wp2_with fail
 refine (ro.out _).mono ?_
 rintro e u1 ⟨rfl, hbl⟩
 clear kHA0 kHA1 kHA2 kHA3 kHC0 kHC1 kHC2 kHC3
 have HB := Kp.mk (HB.out.step hbl)
 have HA := Kp.mk (HA.out.step hbl)
 have HC := Kp.mk (HC.out.step hbl)
 clear hbl
 have kHA0 := HA.out.c0
 have kHA1 := HA.out.c1
 have kHA2 := HA.out.c2
 have kHA3 := HA.out.c3
 have kHC0 := HC.out.c0
 have kHC1 := HC.out.c1
 have kHC2 := HC.out.c2
 have kHC3 := HC.out.c3
 have HA1 := HA
 have HC1 := HC
 have HB1 := HB
 have HG := Kp.mk (ag_new u1)
 go_wp2_with fail
 refine (rp.out _).mono ?_
 rintro e u2 ⟨rfl, hbl⟩
 clear kHA0 kHA1 kHA2 kHA3 kHC0 kHC1 kHC2 kHC3
 have HB := Kp.mk (HB.out.step hbl)
 have HG := Kp.mk (HG.out.step hbl)
 have HA := Kp.mk (HA.out.step hbl)
 have HC := Kp.mk (HC.out.step hbl)
 clear hbl
 have kHA0 := HA.out.c0
 have kHA1 := HA.out.c1
 have kHA2 := HA.out.c2
 have kHA3 := HA.out.c3
 have kHC0 := HC.out.c0
 have kHC1 := HC.out.c1
 have kHC2 := HC.out.c2
 have kHC3 := HC.out.c3
 go_upto_region 5 with fail
 clear kHA0 kHA1 kHA2 kHA3 kHC0 kHC1 kHC2 kHC3
 have HE := Kp.mk (eb_new 0 (s.d - 1) 24 HB.out.below)
 have hbl := (Below.refl u2.heap.size u2).alloc (Nat.le_refl _) (.cells #[.int .i8 0, .int .i64 (s.d - 1)] 24)
 have HB := Kp.mk (HB.out.step hbl)
 have HG := Kp.mk (HG.out.step hbl)
 have HA := Kp.mk (HA.out.step hbl)
 have HC := Kp.mk (HC.out.step hbl)
 clear hbl
 generalize u2.alloc (.cells #[.int .i8 0, .int .i64 (s.d - 1)] 24) = u3 at *
 generalize u2.heap.size = gHE at *
 have kHA0 := HA.out.c0
 have kHA1 := HA.out.c1
 have kHA2 := HA.out.c2
 have kHA3 := HA.out.c3
 have kHC0 := HC.out.c0
 have kHC1 := HC.out.c1
 have kHC2 := HC.out.c2
 have kHC3 := HC.out.c3
 have kHE0 := HE.out.c0
 have kHE1 := HE.out.c1
 go_wp2_with fail
 refine (rc.out _).mono ?_
 rintro e u4 ⟨rfl, hbl⟩
 clear kHA0 kHA1 kHA2 kHA3 kHC0 kHC1 kHC2 kHC3 kHE0 kHE1
 have HB := Kp.mk (HB.out.step hbl)
 have HG := Kp.mk (HG.out.step hbl)
 have HA := Kp.mk (HA.out.step hbl)
 have HC := Kp.mk (HC.out.step hbl)
 have HE := Kp.mk (HE.out.step hbl)
 clear hbl
 have kHA0 := HA.out.c0
 have kHA1 := HA.out.c1
 have kHA2 := HA.out.c2
 have kHA3 := HA.out.c3
 have kHC0 := HC.out.c0
 have kHC1 := HC.out.c1
 have kHC2 := HC.out.c2
 have kHC3 := HC.out.c3
 have kHE0 := HE.out.c0
 have kHE1 := HE.out.c1
 go_wp2_with (at_builtin; refine wpList_append_own _ rfl (.tmp 36) (.tmp 41) 60 rfl u1.heap.size 26 i0 (.agg #[.int .i8 0, .int .i64 0, .int .i8 0, .int .i64 0]) 4 32 Tryz.underlying60 hi0 hz0 hz1 hz2 rfl (by decide) (.slice none 0 0) (([] : List Rn)).length (vL (([] : List Rn))) rfl (HG.out.own.alloc _) ⟨u4.heap.size, 0, none⟩ 1 1 [.int .i8 r.f, .int .i64 r.d, .int .i8 0, .int .i64 (s.d - 1)] rfl rfl (four_row _ _ _ _ _ _) (by intro u hu; simp at hu; rcases hu with rfl | rfl | rfl | rfl <;> rfl) (by unfold maxLen; simp) (by simp) (by have := HG.out.below.size; simp; omega) ?_)
 intro v5 u5 hown hgrow _
 clear kHA0 kHA1 kHA2 kHA3 kHC0 kHC1 kHC2 kHC3 kHE0 kHE1
 have HG := Kp.mk (HG.out.add (r := ⟨r.f, r.d, 0, s.d - 1⟩) ((Below.refl u4.heap.size u4).alloc (Nat.le_refl _) (.cells #[.int .i8 r.f, .int .i64 r.d, .int .i8 0, .int .i64 (s.d - 1)] 26)) hown hgrow)
 clear hown hgrow
 have HA := Kp.mk (HA1.out.step HG.out.below)
 have HC := Kp.mk (HC1.out.step HG.out.below)
 have HB := Kp.mk (bl_of HA.out)
 have kHA0 := HA.out.c0
 have kHA1 := HA.out.c1
 have kHA2 := HA.out.c2
 have kHA3 := HA.out.c3
 have kHC0 := HC.out.c0
 have kHC1 := HC.out.c1
 have kHC2 := HC.out.c2
 have kHC3 := HC.out.c3
 go_wp2_with fail
 refine (rn.out _).mono ?_
 rintro e u6 ⟨rfl, hbl⟩
 clear kHA0 kHA1 kHA2 kHA3 kHC0 kHC1 kHC2 kHC3
 have HB := Kp.mk (HB.out.step hbl)
 have HG := Kp.mk (HG.out.step hbl)
 have HA := Kp.mk (HA.out.step hbl)
 have HC := Kp.mk (HC.out.step hbl)
 clear hbl
 have kHA0 := HA.out.c0
 have kHA1 := HA.out.c1
 have kHA2 := HA.out.c2
 have kHA3 := HA.out.c3
 have kHC0 := HC.out.c0
 have kHC1 := HC.out.c1
 have kHC2 := HC.out.c2
 have kHC3 := HC.out.c3
 go_upto_region 8 with fail
 clear kHA0 kHA1 kHA2 kHA3 kHC0 kHC1 kHC2 kHC3
 have HF := Kp.mk (eb_new 0 (s.e + 1) 24 HB.out.below)
 have hbl := (Below.refl u6.heap.size u6).alloc (Nat.le_refl _) (.cells #[.int .i8 0, .int .i64 (s.e + 1)] 24)
 have HB := Kp.mk (HB.out.step hbl)
 have HG := Kp.mk (HG.out.step hbl)
 have HA := Kp.mk (HA.out.step hbl)
 have HC := Kp.mk (HC.out.step hbl)
 clear hbl
 generalize u6.alloc (.cells #[.int .i8 0, .int .i64 (s.e + 1)] 24) = u7 at *
 generalize u6.heap.size = gHF at *
 have kHA0 := HA.out.c0
 have kHA1 := HA.out.c1
 have kHA2 := HA.out.c2
 have kHA3 := HA.out.c3
 have kHC0 := HC.out.c0
 have kHC1 := HC.out.c1
 have kHC2 := HC.out.c2
 have kHC3 := HC.out.c3
 have kHF0 := HF.out.c0
 have kHF1 := HF.out.c1
 go_wp2_with fail
 refine (rd.out _).mono ?_
 rintro e u8 ⟨rfl, hbl⟩
 clear kHA0 kHA1 kHA2 kHA3 kHC0 kHC1 kHC2 kHC3 kHF0 kHF1
 have HB := Kp.mk (HB.out.step hbl)
 have HG := Kp.mk (HG.out.step hbl)
 have HA := Kp.mk (HA.out.step hbl)
 have HC := Kp.mk (HC.out.step hbl)
 have HF := Kp.mk (HF.out.step hbl)
 clear hbl
 have kHA0 := HA.out.c0
 have kHA1 := HA.out.c1
 have kHA2 := HA.out.c2
 have kHA3 := HA.out.c3
 have kHC0 := HC.out.c0
 have kHC1 := HC.out.c1
 have kHC2 := HC.out.c2
 have kHC3 := HC.out.c3
 have kHF0 := HF.out.c0
 have kHF1 := HF.out.c1
 go_wp2_with (at_builtin; refine wpList_append_own _ rfl (.tmp 63) (.tmp 68) 60 rfl u1.heap.size 26 i0 (.agg #[.int .i8 0, .int .i64 0, .int .i8 0, .int .i64 0]) 4 32 Tryz.underlying60 hi0 hz0 hz1 hz2 rfl (by decide) v5 (([] ++ [⟨r.f, r.d, 0, s.d - 1⟩] : List Rn)).length (vL (([] ++ [⟨r.f, r.d, 0, s.d - 1⟩] : List Rn))) rfl (HG.out.own.alloc _) ⟨u8.heap.size, 0, none⟩ 1 1 [.int .i8 0, .int .i64 (s.e + 1), .int .i8 r.g, .int .i64 r.e] rfl rfl (four_row _ _ _ _ _ _) (by intro u hu; simp at hu; rcases hu with rfl | rfl | rfl | rfl <;> rfl) (by unfold maxLen; simp) (by simp) (by have := HG.out.below.size; simp; omega) ?_)
 intro v9 u9 hown hgrow _
 clear kHA0 kHA1 kHA2 kHA3 kHC0 kHC1 kHC2 kHC3 kHF0 kHF1
 have HG := Kp.mk (HG.out.add (r := ⟨0, s.e + 1, r.g, r.e⟩) ((Below.refl u8.heap.size u8).alloc (Nat.le_refl _) (.cells #[.int .i8 0, .int .i64 (s.e + 1), .int .i8 r.g, .int .i64 r.e] 26)) hown hgrow)
 clear hown hgrow
 have HA := Kp.mk (HA1.out.step HG.out.below)
 have HC := Kp.mk (HC1.out.step HG.out.below)
 have HB := Kp.mk (bl_of HA.out)
 have kHA0 := HA.out.c0
 have kHA1 := HA.out.c1
 have kHA2 := HA.out.c2
 have kHA3 := HA.out.c3
 have kHC0 := HC.out.c0
 have kHC1 := HC.out.c1
 have kHC2 := HC.out.c2
 have kHC3 := HC.out.c3
 go_wp2_with fail
 go_ret
 exact ls_of HG.out HB1.out.below
set_option maxHeartbeats 4000000 in
theorem refSLess_yes_no {r s : Rn} (hr : r.Ok) (hs : s.Ok) (h : r.lo ≤ s.hi ∧ s.lo ≤ r.hi) (l0 : s.f = 0) (l1 : ¬ s.d = -9223372036854775808) (l2 : r.lo ≤ s.d - 1) (h0 : s.g = 0) (h1 : ¬ s.e = 9223372036854775807) (h2 : ¬ s.e + 1 ≤ r.hi) (w : World) :
 Calls Tryz.prog 121 #[.agg #[.int .i8 r.f, .int .i64 r.d, .int .i8 r.g, .int .i64 r.e], .agg #[.int .i8 s.f, .int .i64 s.d, .int .i8 s.g, .int .i64 s.e]] w (LsR w [⟨r.f, r.d, 0, s.d - 1⟩]) := by
 obtain ⟨i0, hi0, hz0, hz1, hz2⟩ := infoRn4
 have HA := Kp.mk (rg_two w r s).1
 have HC := Kp.mk (rg_two w r s).2
 have HB := Kp.mk (bl_of HA.out)
 have ro := Kp.mk (fun w => refOver_is hr hs (decide_eq_true h) w)
 have sL : StepE false s.f s.d 0 (s.d - 1) 0 := by
  have c0 := chkE_zero (f := s.f) (d := s.d)
  have q := hs.lof
  refine ⟨fun x => absurd (c0.2 (by omega)) x, fun x y => by omega, fun x y => ?_, fun x y => ?_⟩
  ·rw [if_neg (by decide)] at y; omega
  ·rw [if_neg (by decide)] at y; rw [if_neg (by decide)]; omega
 have rp := Kp.mk (fun w => refEPrev_is sL hs.d0 hs.d1 w)
 have cl : cmpE r.f r.d 0 (s.d - 1) ≤ 0 := by
  rw [cmpE_le]
  have q := hr.pos.pl
  have := hs.d0; have := hs.d1
  omega
 obtain ⟨vl, hvl⟩ : ∃ v, cmpE r.f r.d 0 (s.d - 1) = v := ⟨_, rfl⟩
 rw [hvl] at cl
 have rc := Kp.mk (fun w => refECmp_is hvl w)
 clear hvl
 have sH : StepE true s.g s.e 0 (s.e + 1) 0 := by
  have c0 := chkE_zero (f := s.g) (d := s.e)
  have q := hs.hif
  refine ⟨fun x => absurd (c0.2 (by omega)) x, fun x y => by omega, fun x y => ?_, fun x y => ?_⟩
  ·rw [if_pos rfl] at y; omega
  ·rw [if_pos rfl] at y; rw [if_pos rfl]; omega
 have rn := Kp.mk (fun w => refENext_is sH hs.e0 hs.e1 w)
 have ch : ¬ cmpE 0 (s.e + 1) r.g r.e ≤ 0 := by
  rw [cmpE_le]
  have q := hr.pos.ph
  have := hs.e0; have := hs.e1
  omega
 obtain ⟨vh, hvh⟩ : ∃ v, cmpE 0 (s.e + 1) r.g r.e = v := ⟨_, rfl⟩
 rw [hvh] at ch
 have rd := Kp.mk (fun w => refECmp_is hvh w)
 clear hvh
 clear hr hs h sL sH l0 l1 l2 h0 h1 h2
 go_enter Tryz.func121, Tryz.ntmps121
 go_upto_region 1 with fail
 generalize ((w.alloc (.cells #[.int .i8 r.f, .int .i64 r.d, .int .i8 r.g, .int .i64 r.e] 26)).alloc (.cells #[.int .i8 s.f, .int .i64 s.d, .int .i8 s.g, .int .i64 s.e] 26)) = w0 at *
 have kHA0 := HA.out.c0
 have kHA1 := HA.out.c1
 have kHA2 := HA.out.c2
 have kHA3 := HA.out.c3
 have kHC0 := HC.out.c0
 have kHC1 := HC.out.c1
 have kHC2 := HC.out.c2
 have kHC3 := HC.out.c3
 go_wp2_with fail
 refine (ro.out _).mono ?_
 rintro e u1 ⟨rfl, hbl⟩
 clear kHA0 kHA1 kHA2 kHA3 kHC0 kHC1 kHC2 kHC3
 have HB := Kp.mk (HB.out.step hbl)
 have HA := Kp.mk (HA.out.step hbl)
 have HC := Kp.mk (HC.out.step hbl)
 clear hbl
 have kHA0 := HA.out.c0
 have kHA1 := HA.out.c1
 have kHA2 := HA.out.c2
 have kHA3 := HA.out.c3
 have kHC0 := HC.out.c0
 have kHC1 := HC.out.c1
 have kHC2 := HC.out.c2
 have kHC3 := HC.out.c3
 have HA1 := HA
 have HC1 := HC
 have HB1 := HB
 have HG := Kp.mk (ag_new u1)
 go_wp2_with fail
 refine (rp.out _).mono ?_
 rintro e u2 ⟨rfl, hbl⟩
 clear kHA0 kHA1 kHA2 kHA3 kHC0 kHC1 kHC2 kHC3
 have HB := Kp.mk (HB.out.step hbl)
 have HG := Kp.mk (HG.out.step hbl)
 have HA := Kp.mk (HA.out.step hbl)
 have HC := Kp.mk (HC.out.step hbl)
 clear hbl
 have kHA0 := HA.out.c0
 have kHA1 := HA.out.c1
 have kHA2 := HA.out.c2
 have kHA3 := HA.out.c3
 have kHC0 := HC.out.c0
 have kHC1 := HC.out.c1
 have kHC2 := HC.out.c2
 have kHC3 := HC.out.c3
 go_upto_region 5 with fail
 clear kHA0 kHA1 kHA2 kHA3 kHC0 kHC1 kHC2 kHC3
 have HE := Kp.mk (eb_new 0 (s.d - 1) 24 HB.out.below)
 have hbl := (Below.refl u2.heap.size u2).alloc (Nat.le_refl _) (.cells #[.int .i8 0, .int .i64 (s.d - 1)] 24)
 have HB := Kp.mk (HB.out.step hbl)
 have HG := Kp.mk (HG.out.step hbl)
 have HA := Kp.mk (HA.out.step hbl)
 have HC := Kp.mk (HC.out.step hbl)
 clear hbl
 generalize u2.alloc (.cells #[.int .i8 0, .int .i64 (s.d - 1)] 24) = u3 at *
 generalize u2.heap.size = gHE at *
 have kHA0 := HA.out.c0
 have kHA1 := HA.out.c1
 have kHA2 := HA.out.c2
 have kHA3 := HA.out.c3
 have kHC0 := HC.out.c0
 have kHC1 := HC.out.c1
 have kHC2 := HC.out.c2
 have kHC3 := HC.out.c3
 have kHE0 := HE.out.c0
 have kHE1 := HE.out.c1
 go_wp2_with fail
 refine (rc.out _).mono ?_
 rintro e u4 ⟨rfl, hbl⟩
 clear kHA0 kHA1 kHA2 kHA3 kHC0 kHC1 kHC2 kHC3 kHE0 kHE1
 have HB := Kp.mk (HB.out.step hbl)
 have HG := Kp.mk (HG.out.step hbl)
 have HA := Kp.mk (HA.out.step hbl)
 have HC := Kp.mk (HC.out.step hbl)
 have HE := Kp.mk (HE.out.step hbl)
 clear hbl
 have kHA0 := HA.out.c0
 have kHA1 := HA.out.c1
 have kHA2 := HA.out.c2
 have kHA3 := HA.out.c3
 have kHC0 := HC.out.c0
 have kHC1 := HC.out.c1
 have kHC2 := HC.out.c2
 have kHC3 := HC.out.c3
 have kHE0 := HE.out.c0
 have kHE1 := HE.out.c1
 go_wp2_with (at_builtin; refine wpList_append_own _ rfl (.tmp 36) (.tmp 41) 60 rfl u1.heap.size 26 i0 (.agg #[.int .i8 0, .int .i64 0, .int .i8 0, .int .i64 0]) 4 32 Tryz.underlying60 hi0 hz0 hz1 hz2 rfl (by decide) (.slice none 0 0) (([] : List Rn)).length (vL (([] : List Rn))) rfl (HG.out.own.alloc _) ⟨u4.heap.size, 0, none⟩ 1 1 [.int .i8 r.f, .int .i64 r.d, .int .i8 0, .int .i64 (s.d - 1)] rfl rfl (four_row _ _ _ _ _ _) (by intro u hu; simp at hu; rcases hu with rfl | rfl | rfl | rfl <;> rfl) (by unfold maxLen; simp) (by simp) (by have := HG.out.below.size; simp; omega) ?_)
 intro v5 u5 hown hgrow _
 clear kHA0 kHA1 kHA2 kHA3 kHC0 kHC1 kHC2 kHC3 kHE0 kHE1
 have HG := Kp.mk (HG.out.add (r := ⟨r.f, r.d, 0, s.d - 1⟩) ((Below.refl u4.heap.size u4).alloc (Nat.le_refl _) (.cells #[.int .i8 r.f, .int .i64 r.d, .int .i8 0, .int .i64 (s.d - 1)] 26)) hown hgrow)
 clear hown hgrow
 have HA := Kp.mk (HA1.out.step HG.out.below)
 have HC := Kp.mk (HC1.out.step HG.out.below)
 have HB := Kp.mk (bl_of HA.out)
 have kHA0 := HA.out.c0
 have kHA1 := HA.out.c1
 have kHA2 := HA.out.c2
 have kHA3 := HA.out.c3
 have kHC0 := HC.out.c0
 have kHC1 := HC.out.c1
 have kHC2 := HC.out.c2
 have kHC3 := HC.out.c3
 go_wp2_with fail
 refine (rn.out _).mono ?_
 rintro e u6 ⟨rfl, hbl⟩
 clear kHA0 kHA1 kHA2 kHA3 kHC0 kHC1 kHC2 kHC3
 have HB := Kp.mk (HB.out.step hbl)
 have HG := Kp.mk (HG.out.step hbl)
 have HA := Kp.mk (HA.out.step hbl)
 have HC := Kp.mk (HC.out.step hbl)
 clear hbl
 have kHA0 := HA.out.c0
 have kHA1 := HA.out.c1
 have kHA2 := HA.out.c2
 have kHA3 := HA.out.c3
 have kHC0 := HC.out.c0
 have kHC1 := HC.out.c1
 have kHC2 := HC.out.c2
 have kHC3 := HC.out.c3
 go_upto_region 8 with fail
 clear kHA0 kHA1 kHA2 kHA3 kHC0 kHC1 kHC2 kHC3
 have HF := Kp.mk (eb_new 0 (s.e + 1) 24 HB.out.below)
 have hbl := (Below.refl u6.heap.size u6).alloc (Nat.le_refl _) (.cells #[.int .i8 0, .int .i64 (s.e + 1)] 24)
 have HB := Kp.mk (HB.out.step hbl)
 have HG := Kp.mk (HG.out.step hbl)
 have HA := Kp.mk (HA.out.step hbl)
 have HC := Kp.mk (HC.out.step hbl)
 clear hbl
 generalize u6.alloc (.cells #[.int .i8 0, .int .i64 (s.e + 1)] 24) = u7 at *
 generalize u6.heap.size = gHF at *
 have kHA0 := HA.out.c0
 have kHA1 := HA.out.c1
 have kHA2 := HA.out.c2
 have kHA3 := HA.out.c3
 have kHC0 := HC.out.c0
 have kHC1 := HC.out.c1
 have kHC2 := HC.out.c2
 have kHC3 := HC.out.c3
 have kHF0 := HF.out.c0
 have kHF1 := HF.out.c1
 go_wp2_with fail
 refine (rd.out _).mono ?_
 rintro e u8 ⟨rfl, hbl⟩
 clear kHA0 kHA1 kHA2 kHA3 kHC0 kHC1 kHC2 kHC3 kHF0 kHF1
 have HB := Kp.mk (HB.out.step hbl)
 have HG := Kp.mk (HG.out.step hbl)
 have HA := Kp.mk (HA.out.step hbl)
 have HC := Kp.mk (HC.out.step hbl)
 have HF := Kp.mk (HF.out.step hbl)
 clear hbl
 have kHA0 := HA.out.c0
 have kHA1 := HA.out.c1
 have kHA2 := HA.out.c2
 have kHA3 := HA.out.c3
 have kHC0 := HC.out.c0
 have kHC1 := HC.out.c1
 have kHC2 := HC.out.c2
 have kHC3 := HC.out.c3
 have kHF0 := HF.out.c0
 have kHF1 := HF.out.c1
 go_wp2_with fail
 go_ret
 exact ls_of HG.out HB1.out.below
set_option maxHeartbeats 4000000 in
theorem refSLess_no_over {r s : Rn} (hr : r.Ok) (hs : s.Ok) (h : r.lo ≤ s.hi ∧ s.lo ≤ r.hi) (l0 : s.f = 0) (l1 : ¬ s.d = -9223372036854775808) (l2 : ¬ r.lo ≤ s.d - 1) (h0 : s.g = 0) (h1 : s.e = 9223372036854775807) (w : World) :
 Calls Tryz.prog 121 #[.agg #[.int .i8 r.f, .int .i64 r.d, .int .i8 r.g, .int .i64 r.e], .agg #[.int .i8 s.f, .int .i64 s.d, .int .i8 s.g, .int .i64 s.e]] w (LsR w []) := by
 obtain ⟨i0, hi0, hz0, hz1, hz2⟩ := infoRn4
 have HA := Kp.mk (rg_two w r s).1
 have HC := Kp.mk (rg_two w r s).2
 have HB := Kp.mk (bl_of HA.out)
 have ro := Kp.mk (fun w => refOver_is hr hs (decide_eq_true h) w)
 have sL : StepE false s.f s.d 0 (s.d - 1) 0 := by
  have c0 := chkE_zero (f := s.f) (d := s.d)
  have q := hs.lof
  refine ⟨fun x => absurd (c0.2 (by omega)) x, fun x y => by omega, fun x y => ?_, fun x y => ?_⟩
  ·rw [if_neg (by decide)] at y; omega
  ·rw [if_neg (by decide)] at y; rw [if_neg (by decide)]; omega
 have rp := Kp.mk (fun w => refEPrev_is sL hs.d0 hs.d1 w)
 have cl : ¬ cmpE r.f r.d 0 (s.d - 1) ≤ 0 := by
  rw [cmpE_le]
  have q := hr.pos.pl
  have := hs.d0; have := hs.d1
  omega
 obtain ⟨vl, hvl⟩ : ∃ v, cmpE r.f r.d 0 (s.d - 1) = v := ⟨_, rfl⟩
 rw [hvl] at cl
 have rc := Kp.mk (fun w => refECmp_is hvl w)
 clear hvl
 have sH : StepE true s.g s.e 0 0 15 := by
  have c0 := chkE_zero (f := s.g) (d := s.e)
  have q := hs.hif
  refine ⟨fun x => absurd (c0.2 (by omega)) x, fun x y => by omega, fun x y => ?_, fun x y => ?_⟩
  ·rw [if_pos rfl] at y; omega
  ·rw [if_pos rfl] at y; rw [if_pos rfl]; omega
 have rn := Kp.mk (fun w => refENext_is sH hs.e0 hs.e1 w)
 clear hr hs h sL sH l0 l1 l2 h0 h1
 go_enter Tryz.func121, Tryz.ntmps121
 go_upto_region 1 with fail
 generalize ((w.alloc (.cells #[.int .i8 r.f, .int .i64 r.d, .int .i8 r.g, .int .i64 r.e] 26)).alloc (.cells #[.int .i8 s.f, .int .i64 s.d, .int .i8 s.g, .int .i64 s.e] 26)) = w0 at *
 have kHA0 := HA.out.c0
 have kHA1 := HA.out.c1
 have kHA2 := HA.out.c2
 have kHA3 := HA.out.c3
 have kHC0 := HC.out.c0
 have kHC1 := HC.out.c1
 have kHC2 := HC.out.c2
 have kHC3 := HC.out.c3
 go_wp2_with fail
 refine (ro.out _).mono ?_
 rintro e u1 ⟨rfl, hbl⟩
 clear kHA0 kHA1 kHA2 kHA3 kHC0 kHC1 kHC2 kHC3
 have HB := Kp.mk (HB.out.step hbl)
 have HA := Kp.mk (HA.out.step hbl)
 have HC := Kp.mk (HC.out.step hbl)
 clear hbl
 have kHA0 := HA.out.c0
 have kHA1 := HA.out.c1
 have kHA2 := HA.out.c2
 have kHA3 := HA.out.c3
 have kHC0 := HC.out.c0
 have kHC1 := HC.out.c1
 have kHC2 := HC.out.c2
 have kHC3 := HC.out.c3
 have HA1 := HA
 have HC1 := HC
 have HB1 := HB
 have HG := Kp.mk (ag_new u1)
 go_wp2_with fail
 refine (rp.out _).mono ?_
 rintro e u2 ⟨rfl, hbl⟩
 clear kHA0 kHA1 kHA2 kHA3 kHC0 kHC1 kHC2 kHC3
 have HB := Kp.mk (HB.out.step hbl)
 have HG := Kp.mk (HG.out.step hbl)
 have HA := Kp.mk (HA.out.step hbl)
 have HC := Kp.mk (HC.out.step hbl)
 clear hbl
 have kHA0 := HA.out.c0
 have kHA1 := HA.out.c1
 have kHA2 := HA.out.c2
 have kHA3 := HA.out.c3
 have kHC0 := HC.out.c0
 have kHC1 := HC.out.c1
 have kHC2 := HC.out.c2
 have kHC3 := HC.out.c3
 go_upto_region 5 with fail
 clear kHA0 kHA1 kHA2 kHA3 kHC0 kHC1 kHC2 kHC3
 have HE := Kp.mk (eb_new 0 (s.d - 1) 24 HB.out.below)
 have hbl := (Below.refl u2.heap.size u2).alloc (Nat.le_refl _) (.cells #[.int .i8 0, .int .i64 (s.d - 1)] 24)
 have HB := Kp.mk (HB.out.step hbl)
 have HG := Kp.mk (HG.out.step hbl)
 have HA := Kp.mk (HA.out.step hbl)
 have HC := Kp.mk (HC.out.step hbl)
 clear hbl
 generalize u2.alloc (.cells #[.int .i8 0, .int .i64 (s.d - 1)] 24) = u3 at *
 generalize u2.heap.size = gHE at *
 have kHA0 := HA.out.c0
 have kHA1 := HA.out.c1
 have kHA2 := HA.out.c2
 have kHA3 := HA.out.c3
 have kHC0 := HC.out.c0
 have kHC1 := HC.out.c1
 have kHC2 := HC.out.c2
 have kHC3 := HC.out.c3
 have kHE0 := HE.out.c0
 have kHE1 := HE.out.c1
 go_wp2_with fail
 refine (rc.out _).mono ?_
 rintro e u4 ⟨rfl, hbl⟩
 clear kHA0 kHA1 kHA2 kHA3 kHC0 kHC1 kHC2 kHC3 kHE0 kHE1
 have HB := Kp.mk (HB.out.step hbl)
 have HG := Kp.mk (HG.out.step hbl)
 have HA := Kp.mk (HA.out.step hbl)
 have HC := Kp.mk (HC.out.step hbl)
 have HE := Kp.mk (HE.out.step hbl)
 clear hbl
 have kHA0 := HA.out.c0
 have kHA1 := HA.out.c1
 have kHA2 := HA.out.c2
 have kHA3 := HA.out.c3
 have kHC0 := HC.out.c0
 have kHC1 := HC.out.c1
 have kHC2 := HC.out.c2
 have kHC3 := HC.out.c3
 have kHE0 := HE.out.c0
 have kHE1 := HE.out.c1
 go_wp2_with fail
 refine (rn.out _).mono ?_
 rintro e u5 ⟨rfl, hbl⟩
 clear kHA0 kHA1 kHA2 kHA3 kHC0 kHC1 kHC2 kHC3 kHE0 kHE1
 have HB := Kp.mk (HB.out.step hbl)
 have HG := Kp.mk (HG.out.step hbl)
 have HA := Kp.mk (HA.out.step hbl)
 have HC := Kp.mk (HC.out.step hbl)
 have HE := Kp.mk (HE.out.step hbl)
 clear hbl
 have kHA0 := HA.out.c0
 have kHA1 := HA.out.c1
 have kHA2 := HA.out.c2
 have kHA3 := HA.out.c3
 have kHC0 := HC.out.c0
 have kHC1 := HC.out.c1
 have kHC2 := HC.out.c2
 have kHC3 := HC.out.c3
 have kHE0 := HE.out.c0
 have kHE1 := HE.out.c1
 go_upto_region 8 with fail
 clear kHA0 kHA1 kHA2 kHA3 kHC0 kHC1 kHC2 kHC3 kHE0 kHE1
 have HF := Kp.mk (eb_new 0 0 24 HB.out.below)
 have hbl := (Below.refl u5.heap.size u5).alloc (Nat.le_refl _) (.cells #[.int .i8 0, .int .i64 0] 24)
 have HB := Kp.mk (HB.out.step hbl)
 have HG := Kp.mk (HG.out.step hbl)
 have HA := Kp.mk (HA.out.step hbl)
 have HC := Kp.mk (HC.out.step hbl)
 have HE := Kp.mk (HE.out.step hbl)
 clear hbl
 generalize u5.alloc (.cells #[.int .i8 0, .int .i64 0] 24) = u6 at *
 generalize u5.heap.size = gHF at *
 have kHA0 := HA.out.c0
 have kHA1 := HA.out.c1
 have kHA2 := HA.out.c2
 have kHA3 := HA.out.c3
 have kHC0 := HC.out.c0
 have kHC1 := HC.out.c1
 have kHC2 := HC.out.c2
 have kHC3 := HC.out.c3
 have kHE0 := HE.out.c0
 have kHE1 := HE.out.c1
 have kHF0 := HF.out.c0
 have kHF1 := HF.out.c1
 go_wp2_with fail
 go_ret
 exact ls_of HG.out HB1.out.below
set_option maxHeartbeats 4000000 in
theorem refSLess_no_inf {r s : Rn} (hr : r.Ok) (hs : s.Ok) (h : r.lo ≤ s.hi ∧ s.lo ≤ r.hi) (l0 : s.f = 0) (l1 : ¬ s.d = -9223372036854775808) (l2 : ¬ r.lo ≤ s.d - 1) (h0 : s.g = 1) (w : World) :
 Calls Tryz.prog 121 #[.agg #[.int .i8 r.f, .int .i64 r.d, .int .i8 r.g, .int .i64 r.e], .agg #[.int .i8 s.f, .int .i64 s.d, .int .i8 s.g, .int .i64 s.e]] w (LsR w []) := by
 obtain ⟨i0, hi0, hz0, hz1, hz2⟩ := infoRn4
 have HA := Kp.mk (rg_two w r s).1
 have HC := Kp.mk (rg_two w r s).2
 have HB := Kp.mk (bl_of HA.out)
 have ro := Kp.mk (fun w => refOver_is hr hs (decide_eq_true h) w)
 have sL : StepE false s.f s.d 0 (s.d - 1) 0 := by
  have c0 := chkE_zero (f := s.f) (d := s.d)
  have q := hs.lof
  refine ⟨fun x => absurd (c0.2 (by omega)) x, fun x y => by omega, fun x y => ?_, fun x y => ?_⟩
  ·rw [if_neg (by decide)] at y; omega
  ·rw [if_neg (by decide)] at y; rw [if_neg (by decide)]; omega
 have rp := Kp.mk (fun w => refEPrev_is sL hs.d0 hs.d1 w)
 have cl : ¬ cmpE r.f r.d 0 (s.d - 1) ≤ 0 := by
  rw [cmpE_le]
  have q := hr.pos.pl
  have := hs.d0; have := hs.d1
  omega
 obtain ⟨vl, hvl⟩ : ∃ v, cmpE r.f r.d 0 (s.d - 1) = v := ⟨_, rfl⟩
 rw [hvl] at cl
 have rc := Kp.mk (fun w => refECmp_is hvl w)
 clear hvl
 have sH : StepE true s.g s.e 1 0 0 := by
  have c0 := chkE_zero (f := s.g) (d := s.e)
  have q := hs.hif
  refine ⟨fun x => absurd (c0.2 (by omega)) x, fun x y => by omega, fun x y => ?_, fun x y => ?_⟩
  ·rw [if_pos rfl] at y; omega
  ·rw [if_pos rfl] at y; rw [if_pos rfl]; omega
 have rn := Kp.mk (fun w => refENext_is sH hs.e0 hs.e1 w)
 clear hr hs h sL sH l0 l1 l2 h0
 go_enter Tryz.func121, Tryz.ntmps121
 go_upto_region 1 with fail
 generalize ((w.alloc (.cells #[.int .i8 r.f, .int .i64 r.d, .int .i8 r.g, .int .i64 r.e] 26)).alloc (.cells #[.int .i8 s.f, .int .i64 s.d, .int .i8 s.g, .int .i64 s.e] 26)) = w0 at *
 have kHA0 := HA.out.c0
 have kHA1 := HA.out.c1
 have kHA2 := HA.out.c2
 have kHA3 := HA.out.c3
 have kHC0 := HC.out.c0
 have kHC1 := HC.out.c1
 have kHC2 := HC.out.c2
 have kHC3 := HC.out.c3
 go_wp2_with fail
 refine (ro.out _).mono ?_
 rintro e u1 ⟨rfl, hbl⟩
 clear kHA0 kHA1 kHA2 kHA3 kHC0 kHC1 kHC2 kHC3
 have HB := Kp.mk (HB.out.step hbl)
 have HA := Kp.mk (HA.out.step hbl)
 have HC := Kp.mk (HC.out.step hbl)
 clear hbl
 have kHA0 := HA.out.c0
 have kHA1 := HA.out.c1
 have kHA2 := HA.out.c2
 have kHA3 := HA.out.c3
 have kHC0 := HC.out.c0
 have kHC1 := HC.out.c1
 have kHC2 := HC.out.c2
 have kHC3 := HC.out.c3
 have HA1 := HA
 have HC1 := HC
 have HB1 := HB
 have HG := Kp.mk (ag_new u1)
 go_wp2_with fail
 refine (rp.out _).mono ?_
 rintro e u2 ⟨rfl, hbl⟩
 clear kHA0 kHA1 kHA2 kHA3 kHC0 kHC1 kHC2 kHC3
 have HB := Kp.mk (HB.out.step hbl)
 have HG := Kp.mk (HG.out.step hbl)
 have HA := Kp.mk (HA.out.step hbl)
 have HC := Kp.mk (HC.out.step hbl)
 clear hbl
 have kHA0 := HA.out.c0
 have kHA1 := HA.out.c1
 have kHA2 := HA.out.c2
 have kHA3 := HA.out.c3
 have kHC0 := HC.out.c0
 have kHC1 := HC.out.c1
 have kHC2 := HC.out.c2
 have kHC3 := HC.out.c3
 go_upto_region 5 with fail
 clear kHA0 kHA1 kHA2 kHA3 kHC0 kHC1 kHC2 kHC3
 have HE := Kp.mk (eb_new 0 (s.d - 1) 24 HB.out.below)
 have hbl := (Below.refl u2.heap.size u2).alloc (Nat.le_refl _) (.cells #[.int .i8 0, .int .i64 (s.d - 1)] 24)
 have HB := Kp.mk (HB.out.step hbl)
 have HG := Kp.mk (HG.out.step hbl)
 have HA := Kp.mk (HA.out.step hbl)
 have HC := Kp.mk (HC.out.step hbl)
 clear hbl
 generalize u2.alloc (.cells #[.int .i8 0, .int .i64 (s.d - 1)] 24) = u3 at *
 generalize u2.heap.size = gHE at *
 have kHA0 := HA.out.c0
 have kHA1 := HA.out.c1
 have kHA2 := HA.out.c2
 have kHA3 := HA.out.c3
 have kHC0 := HC.out.c0
 have kHC1 := HC.out.c1
 have kHC2 := HC.out.c2
 have kHC3 := HC.out.c3
 have kHE0 := HE.out.c0
 have kHE1 := HE.out.c1
 go_wp2_with fail
 refine (rc.out _).mono ?_
 rintro e u4 ⟨rfl, hbl⟩
 clear kHA0 kHA1 kHA2 kHA3 kHC0 kHC1 kHC2 kHC3 kHE0 kHE1
 have HB := Kp.mk (HB.out.step hbl)
 have HG := Kp.mk (HG.out.step hbl)
 have HA := Kp.mk (HA.out.step hbl)
 have HC := Kp.mk (HC.out.step hbl)
 have HE := Kp.mk (HE.out.step hbl)
 clear hbl
 have kHA0 := HA.out.c0
 have kHA1 := HA.out.c1
 have kHA2 := HA.out.c2
 have kHA3 := HA.out.c3
 have kHC0 := HC.out.c0
 have kHC1 := HC.out.c1
 have kHC2 := HC.out.c2
 have kHC3 := HC.out.c3
 have kHE0 := HE.out.c0
 have kHE1 := HE.out.c1
 go_wp2_with fail
 refine (rn.out _).mono ?_
 rintro e u5 ⟨rfl, hbl⟩
 clear kHA0 kHA1 kHA2 kHA3 kHC0 kHC1 kHC2 kHC3 kHE0 kHE1
 have HB := Kp.mk (HB.out.step hbl)
 have HG := Kp.mk (HG.out.step hbl)
 have HA := Kp.mk (HA.out.step hbl)
 have HC := Kp.mk (HC.out.step hbl)
 have HE := Kp.mk (HE.out.step hbl)
 clear hbl
 have kHA0 := HA.out.c0
 have kHA1 := HA.out.c1
 have kHA2 := HA.out.c2
 have kHA3 := HA.out.c3
 have kHC0 := HC.out.c0
 have kHC1 := HC.out.c1
 have kHC2 := HC.out.c2
 have kHC3 := HC.out.c3
 have kHE0 := HE.out.c0
 have kHE1 := HE.out.c1
 go_upto_region 8 with fail
 clear kHA0 kHA1 kHA2 kHA3 kHC0 kHC1 kHC2 kHC3 kHE0 kHE1
 have HF := Kp.mk (eb_new 1 0 24 HB.out.below)
 have hbl := (Below.refl u5.heap.size u5).alloc (Nat.le_refl _) (.cells #[.int .i8 1, .int .i64 0] 24)
 have HB := Kp.mk (HB.out.step hbl)
 have HG := Kp.mk (HG.out.step hbl)
 have HA := Kp.mk (HA.out.step hbl)
 have HC := Kp.mk (HC.out.step hbl)
 have HE := Kp.mk (HE.out.step hbl)
 clear hbl
 generalize u5.alloc (.cells #[.int .i8 1, .int .i64 0] 24) = u6 at *
 generalize u5.heap.size = gHF at *
 have kHA0 := HA.out.c0
 have kHA1 := HA.out.c1
 have kHA2 := HA.out.c2
 have kHA3 := HA.out.c3
 have kHC0 := HC.out.c0
 have kHC1 := HC.out.c1
 have kHC2 := HC.out.c2
 have kHC3 := HC.out.c3
 have kHE0 := HE.out.c0
 have kHE1 := HE.out.c1
 have kHF0 := HF.out.c0
 have kHF1 := HF.out.c1
 go_wp2_with fail
 go_ret
 exact ls_of HG.out HB1.out.below
set_option maxHeartbeats 4000000 in
theorem refSLess_no_yes {r s : Rn} (hr : r.Ok) (hs : s.Ok) (h : r.lo ≤ s.hi ∧ s.lo ≤ r.hi) (l0 : s.f = 0) (l1 : ¬ s.d = -9223372036854775808) (l2 : ¬ r.lo ≤ s.d - 1) (h0 : s.g = 0) (h1 : ¬ s.e = 9223372036854775807) (h2 : s.e + 1 ≤ r.hi) (w : World) :
 Calls Tryz.prog 121 #[.agg #[.int .i8 r.f, .int .i64 r.d, .int .i8 r.g, .int .i64 r.e], .agg #[.int .i8 s.f, .int .i64 s.d, .int .i8 s.g, .int .i64 s.e]] w (LsR w [⟨0, s.e + 1, r.g, r.e⟩]) := by
 obtain ⟨i0, hi0, hz0, hz1, hz2⟩ := infoRn4
 have HA := Kp.mk (rg_two w r s).1
 have HC := Kp.mk (rg_two w r s).2
 have HB := Kp.mk (bl_of HA.out)
 have ro := Kp.mk (fun w => refOver_is hr hs (decide_eq_true h) w)
 have sL : StepE false s.f s.d 0 (s.d - 1) 0 := by
  have c0 := chkE_zero (f := s.f) (d := s.d)
  have q := hs.lof
  refine ⟨fun x => absurd (c0.2 (by omega)) x, fun x y => by omega, fun x y => ?_, fun x y => ?_⟩
  ·rw [if_neg (by decide)] at y; omega
  ·rw [if_neg (by decide)] at y; rw [if_neg (by decide)]; omega
 have rp := Kp.mk (fun w => refEPrev_is sL hs.d0 hs.d1 w)
 have cl : ¬ cmpE r.f r.d 0 (s.d - 1) ≤ 0 := by
  rw [cmpE_le]
  have q := hr.pos.pl
  have := hs.d0; have := hs.d1
  omega
 obtain ⟨vl, hvl⟩ : ∃ v, cmpE r.f r.d 0 (s.d - 1) = v := ⟨_, rfl⟩
 rw [hvl] at cl
 have rc := Kp.mk (fun w => refECmp_is hvl w)
 clear hvl
 have sH : StepE true s.g s.e 0 (s.e + 1) 0 := by
  have c0 := chkE_zero (f := s.g) (d := s.e)
  have q := hs.hif
  refine ⟨fun x => absurd (c0.2 (by omega)) x, fun x y => by omega, fun x y => ?_, fun x y => ?_⟩
  ·rw [if_pos rfl] at y; omega
  ·rw [if_pos rfl] at y; rw [if_pos rfl]; omega
 have rn := Kp.mk (fun w => refENext_is sH hs.e0 hs.e1 w)
 have ch : cmpE 0 (s.e + 1) r.g r.e ≤ 0 := by
  rw [cmpE_le]
  have q := hr.pos.ph
  have := hs.e0; have := hs.e1
  omega
 obtain ⟨vh, hvh⟩ : ∃ v, cmpE 0 (s.e + 1) r.g r.e = v := ⟨_, rfl⟩
 rw [hvh] at ch
 have rd := Kp.mk (fun w => refECmp_is hvh w)
 clear hvh
 clear hr hs h sL sH l0 l1 l2 h0 h1 h2
 go_enter Tryz.func121, Tryz.ntmps121
 go_upto_region 1 with fail
 generalize ((w.alloc (.cells #[.int .i8 r.f, .int .i64 r.d, .int .i8 r.g, .int .i64 r.e] 26)).alloc (.cells #[.int .i8 s.f, .int .i64 s.d, .int .i8 s.g, .int .i64 s.e] 26)) = w0 at *
 have kHA0 := HA.out.c0
 have kHA1 := HA.out.c1
 have kHA2 := HA.out.c2
 have kHA3 := HA.out.c3
 have kHC0 := HC.out.c0
 have kHC1 := HC.out.c1
 have kHC2 := HC.out.c2
 have kHC3 := HC.out.c3
 go_wp2_with fail
 refine (ro.out _).mono ?_
 rintro e u1 ⟨rfl, hbl⟩
 clear kHA0 kHA1 kHA2 kHA3 kHC0 kHC1 kHC2 kHC3
 have HB := Kp.mk (HB.out.step hbl)
 have HA := Kp.mk (HA.out.step hbl)
 have HC := Kp.mk (HC.out.step hbl)
 clear hbl
 have kHA0 := HA.out.c0
 have kHA1 := HA.out.c1
 have kHA2 := HA.out.c2
 have kHA3 := HA.out.c3
 have kHC0 := HC.out.c0
 have kHC1 := HC.out.c1
 have kHC2 := HC.out.c2
 have kHC3 := HC.out.c3
 have HA1 := HA
 have HC1 := HC
 have HB1 := HB
 have HG := Kp.mk (ag_new u1)
 go_wp2_with fail
 refine (rp.out _).mono ?_
 rintro e u2 ⟨rfl, hbl⟩
 clear kHA0 kHA1 kHA2 kHA3 kHC0 kHC1 kHC2 kHC3
 have HB := Kp.mk (HB.out.step hbl)
 have HG := Kp.mk (HG.out.step hbl)
 have HA := Kp.mk (HA.out.step hbl)
 have HC := Kp.mk (HC.out.step hbl)
 clear hbl
 have kHA0 := HA.out.c0
 have kHA1 := HA.out.c1
 have kHA2 := HA.out.c2
 have kHA3 := HA.out.c3
 have kHC0 := HC.out.c0
 have kHC1 := HC.out.c1
 have kHC2 := HC.out.c2
 have kHC3 := HC.out.c3
 go_upto_region 5 with fail
 clear kHA0 kHA1 kHA2 kHA3 kHC0 kHC1 kHC2 kHC3
 have HE := Kp.mk (eb_new 0 (s.d - 1) 24 HB.out.below)
 have hbl := (Below.refl u2.heap.size u2).alloc (Nat.le_refl _) (.cells #[.int .i8 0, .int .i64 (s.d - 1)] 24)
 have HB := Kp.mk (HB.out.step hbl)
 have HG := Kp.mk (HG.out.step hbl)
 have HA := Kp.mk (HA.out.step hbl)
 have HC := Kp.mk (HC.out.step hbl)
 clear hbl
 generalize u2.alloc (.cells #[.int .i8 0, .int .i64 (s.d - 1)] 24) = u3 at *
 generalize u2.heap.size = gHE at *
 have kHA0 := HA.out.c0
 have kHA1 := HA.out.c1
 have kHA2 := HA.out.c2
 have kHA3 := HA.out.c3
 have kHC0 := HC.out.c0
 have kHC1 := HC.out.c1
 have kHC2 := HC.out.c2
 have kHC3 := HC.out.c3
 have kHE0 := HE.out.c0
 have kHE1 := HE.out.c1
 go_wp2_with fail
 refine (rc.out _).mono ?_
 rintro e u4 ⟨rfl, hbl⟩
 clear kHA0 kHA1 kHA2 kHA3 kHC0 kHC1 kHC2 kHC3 kHE0 kHE1
 have HB := Kp.mk (HB.out.step hbl)
 have HG := Kp.mk (HG.out.step hbl)
 have HA := Kp.mk (HA.out.step hbl)
 have HC := Kp.mk (HC.out.step hbl)
 have HE := Kp.mk (HE.out.step hbl)
 clear hbl
 have kHA0 := HA.out.c0
 have kHA1 := HA.out.c1
 have kHA2 := HA.out.c2
 have kHA3 := HA.out.c3
 have kHC0 := HC.out.c0
 have kHC1 := HC.out.c1
 have kHC2 := HC.out.c2
 have kHC3 := HC.out.c3
 have kHE0 := HE.out.c0
 have kHE1 := HE.out.c1
 go_wp2_with fail
 refine (rn.out _).mono ?_
 rintro e u5 ⟨rfl, hbl⟩
 clear kHA0 kHA1 kHA2 kHA3 kHC0 kHC1 kHC2 kHC3 kHE0 kHE1
 have HB := Kp.mk (HB.out.step hbl)
 have HG := Kp.mk (HG.out.step hbl)
 have HA := Kp.mk (HA.out.step hbl)
 have HC := Kp.mk (HC.out.step hbl)
 have HE := Kp.mk (HE.out.step hbl)
 clear hbl
 have kHA0 := HA.out.c0
 have kHA1 := HA.out.c1
 have kHA2 := HA.out.c2
 have kHA3 := HA.out.c3
 have kHC0 := HC.out.c0
 have kHC1 := HC.out.c1
 have kHC2 := HC.out.c2
 have kHC3 := HC.out.c3
 have kHE0 := HE.out.c0
 have kHE1 := HE.out.c1
 go_upto_region 8 with fail
 clear kHA0 kHA1 kHA2 kHA3 kHC0 kHC1 kHC2 kHC3 kHE0 kHE1
 have HF := Kp.mk (eb_new 0 (s.e + 1) 24 HB.out.below)
 have hbl := (Below.refl u5.heap.size u5).alloc (Nat.le_refl _) (.cells #[.int .i8 0, .int .i64 (s.e + 1)] 24)
 have HB := Kp.mk (HB.out.step hbl)
 have HG := Kp.mk (HG.out.step hbl)
 have HA := Kp.mk (HA.out.step hbl)
 have HC := Kp.mk (HC.out.step hbl)
 have HE := Kp.mk (HE.out.step hbl)
 clear hbl
 generalize u5.alloc (.cells #[.int .i8 0, .int .i64 (s.e + 1)] 24) = u6 at *
 generalize u5.heap.size = gHF at *
 have kHA0 := HA.out.c0
 have kHA1 := HA.out.c1
 have kHA2 := HA.out.c2
 have kHA3 := HA.out.c3
 have kHC0 := HC.out.c0
 have kHC1 := HC.out.c1
 have kHC2 := HC.out.c2
 have kHC3 := HC.out.c3
 have kHE0 := HE.out.c0
 have kHE1 := HE.out.c1
 have kHF0 := HF.out.c0
 have kHF1 := HF.out.c1
 go_wp2_with fail
 refine (rd.out _).mono ?_
 rintro e u7 ⟨rfl, hbl⟩
 clear kHA0 kHA1 kHA2 kHA3 kHC0 kHC1 kHC2 kHC3 kHE0 kHE1 kHF0 kHF1
 have HB := Kp.mk (HB.out.step hbl)
 have HG := Kp.mk (HG.out.step hbl)
 have HA := Kp.mk (HA.out.step hbl)
 have HC := Kp.mk (HC.out.step hbl)
 have HE := Kp.mk (HE.out.step hbl)
 have HF := Kp.mk (HF.out.step hbl)
 clear hbl
 have kHA0 := HA.out.c0
 have kHA1 := HA.out.c1
 have kHA2 := HA.out.c2
 have kHA3 := HA.out.c3
 have kHC0 := HC.out.c0
 have kHC1 := HC.out.c1
 have kHC2 := HC.out.c2
 have kHC3 := HC.out.c3
 have kHE0 := HE.out.c0
 have kHE1 := HE.out.c1
 have kHF0 := HF.out.c0
 have kHF1 := HF.out.c1
 go_wp2_with (at_builtin; refine wpList_append_own _ rfl (.tmp 63) (.tmp 68) 60 rfl u1.heap.size 26 i0 (.agg #[.int .i8 0, .int .i64 0, .int .i8 0, .int .i64 0]) 4 32 Tryz.underlying60 hi0 hz0 hz1 hz2 rfl (by decide) (.slice none 0 0) (([] : List Rn)).length (vL (([] : List Rn))) rfl (HG.out.own.alloc _) ⟨u7.heap.size, 0, none⟩ 1 1 [.int .i8 0, .int .i64 (s.e + 1), .int .i8 r.g, .int .i64 r.e] rfl rfl (four_row _ _ _ _ _ _) (by intro u hu; simp at hu; rcases hu with rfl | rfl | rfl | rfl <;> rfl) (by unfold maxLen; simp) (by simp) (by have := HG.out.below.size; simp; omega) ?_)
 intro v8 u8 hown hgrow _
 clear kHA0 kHA1 kHA2 kHA3 kHC0 kHC1 kHC2 kHC3 kHE0 kHE1 kHF0 kHF1
 have HG := Kp.mk (HG.out.add (r := ⟨0, s.e + 1, r.g, r.e⟩) ((Below.refl u7.heap.size u7).alloc (Nat.le_refl _) (.cells #[.int .i8 0, .int .i64 (s.e + 1), .int .i8 r.g, .int .i64 r.e] 26)) hown hgrow)
 clear hown hgrow
 have HA := Kp.mk (HA1.out.step HG.out.below)
 have HC := Kp.mk (HC1.out.step HG.out.below)
 have HB := Kp.mk (bl_of HA.out)
 have kHA0 := HA.out.c0
 have kHA1 := HA.out.c1
 have kHA2 := HA.out.c2
 have kHA3 := HA.out.c3
 have kHC0 := HC.out.c0
 have kHC1 := HC.out.c1
 have kHC2 := HC.out.c2
 have kHC3 := HC.out.c3
 go_wp2_with fail
 go_ret
 exact ls_of HG.out HB1.out.below
set_option maxHeartbeats 4000000 in
theorem refSLess_no_no {r s : Rn} (hr : r.Ok) (hs : s.Ok) (h : r.lo ≤ s.hi ∧ s.lo ≤ r.hi) (l0 : s.f = 0) (l1 : ¬ s.d = -9223372036854775808) (l2 : ¬ r.lo ≤ s.d - 1) (h0 : s.g = 0) (h1 : ¬ s.e = 9223372036854775807) (h2 : ¬ s.e + 1 ≤ r.hi) (w : World) :
 Calls Tryz.prog 121 #[.agg #[.int .i8 r.f, .int .i64 r.d, .int .i8 r.g, .int .i64 r.e], .agg #[.int .i8 s.f, .int .i64 s.d, .int .i8 s.g, .int .i64 s.e]] w (LsR w []) := by
 obtain ⟨i0, hi0, hz0, hz1, hz2⟩ := infoRn4
 have HA := Kp.mk (rg_two w r s).1
 have HC := Kp.mk (rg_two w r s).2
 have HB := Kp.mk (bl_of HA.out)
 have ro := Kp.mk (fun w => refOver_is hr hs (decide_eq_true h) w)
 have sL : StepE false s.f s.d 0 (s.d - 1) 0 := by
  have c0 := chkE_zero (f := s.f) (d := s.d)
  have q := hs.lof
  refine ⟨fun x => absurd (c0.2 (by omega)) x, fun x y => by omega, fun x y => ?_, fun x y => ?_⟩
  ·rw [if_neg (by decide)] at y; omega
  ·rw [if_neg (by decide)] at y; rw [if_neg (by decide)]; omega
 have rp := Kp.mk (fun w => refEPrev_is sL hs.d0 hs.d1 w)
 have cl : ¬ cmpE r.f r.d 0 (s.d - 1) ≤ 0 := by
  rw [cmpE_le]
  have q := hr.pos.pl
  have := hs.d0; have := hs.d1
  omega
 obtain ⟨vl, hvl⟩ : ∃ v, cmpE r.f r.d 0 (s.d - 1) = v := ⟨_, rfl⟩
 rw [hvl] at cl
 have rc := Kp.mk (fun w => refECmp_is hvl w)
 clear hvl
 have sH : StepE true s.g s.e 0 (s.e + 1) 0 := by
  have c0 := chkE_zero (f := s.g) (d := s.e)
  have q := hs.hif
  refine ⟨fun x => absurd (c0.2 (by omega)) x, fun x y => by omega, fun x y => ?_, fun x y => ?_⟩
  ·rw [if_pos rfl] at y; omega
  ·rw [if_pos rfl] at y; rw [if_pos rfl]; omega
 have rn := Kp.mk (fun w => refENext_is sH hs.e0 hs.e1 w)
 have ch : ¬ cmpE 0 (s.e + 1) r.g r.e ≤ 0 := by
  rw [cmpE_le]
  have q := hr.pos.ph
  have := hs.e0; have := hs.e1
  omega
 obtain ⟨vh, hvh⟩ : ∃ v, cmpE 0 (s.e + 1) r.g r.e = v := ⟨_, rfl⟩
 rw [hvh] at ch
 have rd := Kp.mk (fun w => refECmp_is hvh w)
 clear hvh
 clear hr hs h sL sH l0 l1 l2 h0 h1 h2
 go_enter Tryz.func121, Tryz.ntmps121
 go_upto_region 1 with fail
 generalize ((w.alloc (.cells #[.int .i8 r.f, .int .i64 r.d, .int .i8 r.g, .int .i64 r.e] 26)).alloc (.cells #[.int .i8 s.f, .int .i64 s.d, .int .i8 s.g, .int .i64 s.e] 26)) = w0 at *
 have kHA0 := HA.out.c0
 have kHA1 := HA.out.c1
 have kHA2 := HA.out.c2
 have kHA3 := HA.out.c3
 have kHC0 := HC.out.c0
 have kHC1 := HC.out.c1
 have kHC2 := HC.out.c2
 have kHC3 := HC.out.c3
 go_wp2_with fail
 refine (ro.out _).mono ?_
 rintro e u1 ⟨rfl, hbl⟩
 clear kHA0 kHA1 kHA2 kHA3 kHC0 kHC1 kHC2 kHC3
 have HB := Kp.mk (HB.out.step hbl)
 have HA := Kp.mk (HA.out.step hbl)
 have HC := Kp.mk (HC.out.step hbl)
 clear hbl
 have kHA0 := HA.out.c0
 have kHA1 := HA.out.c1
 have kHA2 := HA.out.c2
 have kHA3 := HA.out.c3
 have kHC0 := HC.out.c0
 have kHC1 := HC.out.c1
 have kHC2 := HC.out.c2
 have kHC3 := HC.out.c3
 have HA1 := HA
 have HC1 := HC
 have HB1 := HB
 have HG := Kp.mk (ag_new u1)
 go_wp2_with fail
 refine (rp.out _).mono ?_
 rintro e u2 ⟨rfl, hbl⟩
 clear kHA0 kHA1 kHA2 kHA3 kHC0 kHC1 kHC2 kHC3
 have HB := Kp.mk (HB.out.step hbl)
 have HG := Kp.mk (HG.out.step hbl)
 have HA := Kp.mk (HA.out.step hbl)
 have HC := Kp.mk (HC.out.step hbl)
 clear hbl
 have kHA0 := HA.out.c0
 have kHA1 := HA.out.c1
 have kHA2 := HA.out.c2
 have kHA3 := HA.out.c3
 have kHC0 := HC.out.c0
 have kHC1 := HC.out.c1
 have kHC2 := HC.out.c2
 have kHC3 := HC.out.c3
 go_upto_region 5 with fail
 clear kHA0 kHA1 kHA2 kHA3 kHC0 kHC1 kHC2 kHC3
 have HE := Kp.mk (eb_new 0 (s.d - 1) 24 HB.out.below)
 have hbl := (Below.refl u2.heap.size u2).alloc (Nat.le_refl _) (.cells #[.int .i8 0, .int .i64 (s.d - 1)] 24)
 have HB := Kp.mk (HB.out.step hbl)
 have HG := Kp.mk (HG.out.step hbl)
 have HA := Kp.mk (HA.out.step hbl)
 have HC := Kp.mk (HC.out.step hbl)
 clear hbl
 generalize u2.alloc (.cells #[.int .i8 0, .int .i64 (s.d - 1)] 24) = u3 at *
 generalize u2.heap.size = gHE at *
 have kHA0 := HA.out.c0
 have kHA1 := HA.out.c1
 have kHA2 := HA.out.c2
 have kHA3 := HA.out.c3
 have kHC0 := HC.out.c0
 have kHC1 := HC.out.c1
 have kHC2 := HC.out.c2
 have kHC3 := HC.out.c3
 have kHE0 := HE.out.c0
 have kHE1 := HE.out.c1
 go_wp2_with fail
 refine (rc.out _).mono ?_
 rintro e u4 ⟨rfl, hbl⟩
 clear kHA0 kHA1 kHA2 kHA3 kHC0 kHC1 kHC2 kHC3 kHE0 kHE1
 have HB := Kp.mk (HB.out.step hbl)
 have HG := Kp.mk (HG.out.step hbl)
 have HA := Kp.mk (HA.out.step hbl)
 have HC := Kp.mk (HC.out.step hbl)
 have HE := Kp.mk (HE.out.step hbl)
 clear hbl
 have kHA0 := HA.out.c0
 have kHA1 := HA.out.c1
 have kHA2 := HA.out.c2
 have kHA3 := HA.out.c3
 have kHC0 := HC.out.c0
 have kHC1 := HC.out.c1
 have kHC2 := HC.out.c2
 have kHC3 := HC.out.c3
 have kHE0 := HE.out.c0
 have kHE1 := HE.out.c1
 go_wp2_with fail
 refine (rn.out _).mono ?_
 rintro e u5 ⟨rfl, hbl⟩
 clear kHA0 kHA1 kHA2 kHA3 kHC0 kHC1 kHC2 kHC3 kHE0 kHE1
 have HB := Kp.mk (HB.out.step hbl)
 have HG := Kp.mk (HG.out.step hbl)
 have HA := Kp.mk (HA.out.step hbl)
 have HC := Kp.mk (HC.out.step hbl)
 have HE := Kp.mk (HE.out.step hbl)
 clear hbl
 have kHA0 := HA.out.c0
 have kHA1 := HA.out.c1
 have kHA2 := HA.out.c2
 have kHA3 := HA.out.c3
 have kHC0 := HC.out.c0
 have kHC1 := HC.out.c1
 have kHC2 := HC.out.c2
 have kHC3 := HC.out.c3
 have kHE0 := HE.out.c0
 have kHE1 := HE.out.c1
 go_upto_region 8 with fail
 clear kHA0 kHA1 kHA2 kHA3 kHC0 kHC1 kHC2 kHC3 kHE0 kHE1
 have HF := Kp.mk (eb_new 0 (s.e + 1) 24 HB.out.below)
 have hbl := (Below.refl u5.heap.size u5).alloc (Nat.le_refl _) (.cells #[.int .i8 0, .int .i64 (s.e + 1)] 24)
 have HB := Kp.mk (HB.out.step hbl)
 have HG := Kp.mk (HG.out.step hbl)
 have HA := Kp.mk (HA.out.step hbl)
 have HC := Kp.mk (HC.out.step hbl)
 have HE := Kp.mk (HE.out.step hbl)
 clear hbl
 generalize u5.alloc (.cells #[.int .i8 0, .int .i64 (s.e + 1)] 24) = u6 at *
 generalize u5.heap.size = gHF at *
 have kHA0 := HA.out.c0
 have kHA1 := HA.out.c1
 have kHA2 := HA.out.c2
 have kHA3 := HA.out.c3
 have kHC0 := HC.out.c0
 have kHC1 := HC.out.c1
 have kHC2 := HC.out.c2
 have kHC3 := HC.out.c3
 have kHE0 := HE.out.c0
 have kHE1 := HE.out.c1
 have kHF0 := HF.out.c0
 have kHF1 := HF.out.c1
 go_wp2_with fail
 refine (rd.out _).mono ?_
 rintro e u7 ⟨rfl, hbl⟩
 clear kHA0 kHA1 kHA2 kHA3 kHC0 kHC1 kHC2 kHC3 kHE0 kHE1 kHF0 kHF1
 have HB := Kp.mk (HB.out.step hbl)
 have HG := Kp.mk (HG.out.step hbl)
 have HA := Kp.mk (HA.out.step hbl)
 have HC := Kp.mk (HC.out.step hbl)
 have HE := Kp.mk (HE.out.step hbl)
 have HF := Kp.mk (HF.out.step hbl)
 clear hbl
 have kHA0 := HA.out.c0
 have kHA1 := HA.out.c1
 have kHA2 := HA.out.c2
 have kHA3 := HA.out.c3
 have kHC0 := HC.out.c0
 have kHC1 := HC.out.c1
 have kHC2 := HC.out.c2
 have kHC3 := HC.out.c3
 have kHE0 := HE.out.c0
 have kHE1 := HE.out.c1
 have kHF0 := HF.out.c0
 have kHF1 := HF.out.c1
 go_wp2_with fail
 go_ret
 exact ls_of HG.out HB1.out.below
theorem refSLess_is {r s : Rn} (hr : r.Ok) (hs : s.Ok) (w : World) :
 Calls Tryz.prog 121 #[.agg #[.int .i8 r.f, .int .i64 r.d, .int .i8 r.g, .int .i64 r.e], .agg #[.int .i8 s.f, .int .i64 s.d, .int .i8 s.g, .int .i64 s.e]] w (LsR w (lessN r s)) := by
 unfold lessN
 by_cases h : r.lo ≤ s.hi ∧ s.lo ≤ r.hi
 ·rw [if_pos h]
  unfold lessL lessH
  rcases hs.lof with l0 | ⟨l0, _⟩
  ·by_cases l1 : s.d = -9223372036854775808
   ·rcases hs.hif with h0 | ⟨h0, _⟩
    ·by_cases h1 : s.e = 9223372036854775807
     ·rw [if_neg (by omega), if_neg (by omega)]
      exact refSLess_over_over hr hs h l0 l1 h0 h1 w
     ·by_cases h2 : s.e + 1 ≤ r.hi
      ·rw [if_neg (by omega), if_pos (by omega)]
       exact refSLess_over_yes hr hs h l0 l1 h0 h1 h2 w
      ·rw [if_neg (by omega), if_neg (by omega)]
       exact refSLess_over_no hr hs h l0 l1 h0 h1 h2 w
    ·rw [if_neg (by omega), if_neg (by omega)]
     exact refSLess_over_inf hr hs h l0 l1 h0 w
   ·by_cases l2 : r.lo ≤ s.d - 1
    ·rcases hs.hif with h0 | ⟨h0, _⟩
     ·by_cases h1 : s.e = 9223372036854775807
      ·rw [if_pos (by omega), if_neg (by omega)]
       exact refSLess_yes_over hr hs h l0 l1 l2 h0 h1 w
      ·by_cases h2 : s.e + 1 ≤ r.hi
       ·rw [if_pos (by omega), if_pos (by omega)]
        exact refSLess_yes_yes hr hs h l0 l1 l2 h0 h1 h2 w
       ·rw [if_pos (by omega), if_neg (by omega)]
        exact refSLess_yes_no hr hs h l0 l1 l2 h0 h1 h2 w
     ·rw [if_pos (by omega), if_neg (by omega)]
      exact refSLess_yes_inf hr hs h l0 l1 l2 h0 w
    ·rcases hs.hif with h0 | ⟨h0, _⟩
     ·by_cases h1 : s.e = 9223372036854775807
      ·rw [if_neg (by omega), if_neg (by omega)]
       exact refSLess_no_over hr hs h l0 l1 l2 h0 h1 w
      ·by_cases h2 : s.e + 1 ≤ r.hi
       ·rw [if_neg (by omega), if_pos (by omega)]
        exact refSLess_no_yes hr hs h l0 l1 l2 h0 h1 h2 w
       ·rw [if_neg (by omega), if_neg (by omega)]
        exact refSLess_no_no hr hs h l0 l1 l2 h0 h1 h2 w
     ·rw [if_neg (by omega), if_neg (by omega)]
      exact refSLess_no_inf hr hs h l0 l1 l2 h0 w
  ·rcases hs.hif with h0 | ⟨h0, _⟩
   ·by_cases h1 : s.e = 9223372036854775807
    ·rw [if_neg (by omega), if_neg (by omega)]
     exact refSLess_inf_over hr hs h l0 h0 h1 w
    ·by_cases h2 : s.e + 1 ≤ r.hi
     ·rw [if_neg (by omega), if_pos (by omega)]
      exact refSLess_inf_yes hr hs h l0 h0 h1 h2 w
     ·rw [if_neg (by omega), if_neg (by omega)]
      exact refSLess_inf_no hr hs h l0 h0 h1 h2 w
   ·rw [if_neg (by omega), if_neg (by omega)]
    exact refSLess_inf_inf hr hs h l0 h0 w
 ·rw [if_neg h]
  exact refSLess_no hr hs h w
end
section -- RsRefX
open Go.RowKit
set_option maxRecDepth 100000

variable {w W W' : World} {a b : Option Addr} {l m : List Rn}
set_option maxHeartbeats 4000000 in
theorem refSWo_bad {c : Int} {p q : Nat} (hl : ∀ r, r ∈ l → r.In) (hm : ∀ r, r ∈ m → r.In) (nl : l.length ≤ maxLen) (nm : m.length ≤ maxLen) (al : Lr w a l w) (am : Lr w b m w) (hc : bothRs l m = c) (h0 : ¬ c = 0) :
 Calls Tryz.prog 56 #[.slice a l.length p, .slice b m.length q] w fun x w' => x = .returned (.tuple #[.slice none 0 0, .int .i64 c]) ∧ Below w.heap.size w w' := by
 have HB := Kp.mk (Bl.mk (Below.refl w.heap.size w))
 have r1 := Kp.mk (fun (x : World) (h : Below w.heap.size w x) => refSBoth_is (p := p) (q := q) hl hm nl nm (al.step h).now (am.step h).now hc)
 have t1 : (c != 0) = true := by rw [bne_iff_ne]; exact h0
 clear hc h0 hl hm nl nm al am
 generalize l.length = n at *
 generalize m.length = k at *
 go_enter Tryz.func56, Tryz.ntmps56
 go_wp2_with fail
 refine (r1.out _ HB.out.below).mono ?_
 rintro e v1 ⟨rfl, hb⟩
 have HB := Kp.mk (Bl.step HB.out hb)
 clear hb
 go_wp2_with fail
 refine (r1.out _ HB.out.below).mono ?_
 rintro e v2 ⟨rfl, hb⟩
 have HB := Kp.mk (Bl.step HB.out hb)
 clear hb
 go_wp2_with fail
 go_ret2
 exact ⟨rfl, HB.out.below⟩
theorem left_take {S : Int → Prop} {k : Nat} {y : Rn} (hy : m[k]? = some y) (x : Int) : ((S x ∧ leftM (m.take k) x) ∧ leftP y x) ↔ (S x ∧ leftM (m.take (k + 1)) x) := by
 rw [List.take_add_one, hy]
 show _ ↔ (S x ∧ leftM (m.take k ++ [y]) x)
 rw [leftM_add, and_assoc]
theorem out_take {y r : Rn} {ms : List Rn} {q : Nat} (hr : ms[q]? = some r) : outN (ms.take (q + 1)) y = outN (ms.take q) y ++ lessN r y := by
 rw [List.take_add_one, hr]
 show outN (ms.take q ++ [r]) y = _
 rw [outN_add, outN_cons, outN_nil, List.append_nil]
set_option maxHeartbeats 8000000 in
theorem refSWo_is {p q : Nat} (hl : ∀ r, r ∈ l → r.In) (hm : ∀ r, r ∈ m → r.In) (nl : l.length ≤ maxLen) (nm : m.length ≤ maxLen) (al : Lr w a l w) (am : Lr w b m w) (hc : bothRs l m = 0) :
 Calls Tryz.prog 56 #[.slice a l.length p, .slice b m.length q] w fun x w' => ShortOf (fun x => memR l x ∧ leftM m x) (l.length + m.length) w x w' ∧ Below w.heap.size w w' := by
 have HL := Kp.mk al
 have HM := Kp.mk am
 have r1 := Kp.mk (fun (x : World) (h : Below w.heap.size w x) => refSBoth_is (p := p) (q := q) hl hm nl nm (al.step h).now (am.step h).now hc)
 obtain ⟨⟨nl2, cl⟩, nm2, cm⟩ := both_zero hl hm hc
 have CM := Kp.mk cm
 obtain ⟨S, hS⟩ : ∃ S : Int → Prop, (fun x => memR l x) = S := ⟨_, rfl⟩
 have HD : Kp (IsRs l (fun x => S x ∧ leftM (m.take 0) x)) := Kp.mk (by subst hS; exact ⟨cl, fun x => ⟨fun h => ⟨h, leftM_nil x⟩, fun h => h.1⟩⟩)
 have HE : Kp (∀ (u : List Rn) (N : Nat) (x : Ending) (w' : World), ShortOf (fun x => S x ∧ leftM m x) N w x w' → ShortOf (fun x => memR l x ∧ leftM m x) N w x w') := Kp.mk (by subst hS; exact fun _ _ _ _ h => h)
 clear hl hm nl nm al am hc cl cm hS
 obtain ⟨n, hnn⟩ : ∃ n, l.length = n := ⟨_, rfl⟩
 obtain ⟨k, hkk⟩ : ∃ k, m.length = k := ⟨_, rfl⟩
 rw [hnn, hkk] at r1 ⊢
 rw [hnn] at nl2
 rw [hkk] at nm2
 go_enter Tryz.func56, Tryz.ntmps56
 go_wp2_with fail
 refine (r1.out _ HL.out.below).mono ?_
 rintro e v1 ⟨rfl, hb⟩
 have HL := Kp.mk (HL.out.step hb)
 have HM := Kp.mk (HM.out.step hb)
 clear hb r1
 go_wp2_with fail
 go_loopw [6, 7, 8, 9] (fun v i _ _ wr => ∃ (j : Nat) (ms : List Rn) (d : Option Addr) (c : Nat), j ≤ k ∧ i = .int .i64 (j : Int) ∧ v = .slice d ms.length c ∧ ms.length ≤ n + j ∧ Kp (IsRs ms (fun x => S x ∧ leftM (m.take j) x)) ∧ Kp (Lr w b m wr) ∧ Kp (Lr w d ms wr)) (fun _ i _ _ _ => k - (intOf i).toNat)
 case atStart => exact ⟨0, l, a, p, by omega, rfl, by rw [hnn], by omega, HD, HM, HL⟩
 case round =>
  obtain ⟨j, ms, d, c, hj, rfl, rfl, hlen, HD, HM, HX⟩ := hrel
  by_cases h1 : j < k
  ·have t1 : decide ((j : Int) < (k : Int)) = true := decide_eq_true (by omega)
   have b1 : (j : Int) < (k : Int) := by omega
   obtain ⟨y, hy⟩ : ∃ y, m[j]? = some y := ⟨m[j]'(by omega), List.getElem?_eq_getElem (by omega)⟩
   obtain ⟨g2, s2, rfl⟩ := HM.out.place hy
   have OY := Kp.mk (CM.out.ok y (List.mem_of_getElem? hy))
   have wj1 : IntKind.i64.wrap ((j : Int) + 1) = (j : Int) + 1 := IntWalk.i64_in _ (by omega)
   obtain ⟨u0, hu⟩ : ∃ u0 : World, u0 = wr := ⟨_, rfl⟩
   subst hu
   have HMs := Kp.mk HM.out
   have HXs := Kp.mk HX.out
   go_wp2_with fail
   clear t1
   go_loopw [8, 9] (fun v i wr => ∃ (q : Nat) (os : List Rn), q ≤ ms.length ∧ i = .int .i64 (q : Int) ∧ os.length ≤ 2 * q ∧ Kp (os = outN (ms.take q) y) ∧ Kp (Ag u0 os v wr)) (fun _ i _ => ms.length - (intOf i).toNat)
   case atStart => exact ⟨0, [], by omega, rfl, by simp, ⟨by rw [List.take_zero, outN_nil]⟩, Kp.mk (ag_new u0)⟩
   case round =>
    obtain ⟨q, os, hq, rfl, hol, HO, HG⟩ := hrel
    by_cases h2 : q < ms.length
    ·have t2 : decide ((q : Int) < (ms.length : Int)) = true := decide_eq_true (by omega)
     have b2 : (q : Int) < (ms.length : Int) := by omega
     obtain ⟨r, hr⟩ : ∃ r, ms[q]? = some r := ⟨ms[q]'(by omega), List.getElem?_eq_getElem (by omega)⟩
     obtain ⟨g, s, rfl⟩ := HXs.out.place hr
     have wq1 : IntKind.i64.wrap ((q : Int) + 1) = (q : Int) + 1 := IntWalk.i64_in _ (by omega)
     have rs := Kp.mk (fun w => refSLess_is (HD.out.can.ok r (List.mem_of_getElem? hr)) OY.out w)
     have hl2 := (lessN_len (r := r) OY.out).1
     have HX := Kp.mk (HXs.out.step HG.out.below)
     have HM := Kp.mk (HMs.out.step HG.out.below)
     have HT := Kp.mk (out_take (y := y) hr)
     go_upto_region 11 with fail
     have hbl := (Below.refl wr.heap.size wr).drew
     have HXz := Kp.mk (HX.out.step hbl)
     have HMz := Kp.mk (HM.out.step hbl)
     have HGz := Kp.mk (HG.out.step hbl)
     obtain ⟨k0z, k1z, k2z, k3z⟩ := HXz.out.cells hr
     obtain ⟨k4z, k5z, k6z, k7z⟩ := HMz.out.cells hy
     clear hbl
     refine wp_region_held_drew (S := fun w' => w'.cell? ⟨g, s + q * 4, none⟩ = some (.int .i8 r.f) ∧ w'.cell? ⟨g, s + q * 4 + 1, none⟩ = some (.int .i64 r.d) ∧ w'.cell? ⟨g, s + q * 4 + 2, none⟩ = some (.int .i8 r.g) ∧ w'.cell? ⟨g, s + q * 4 + 3, none⟩ = some (.int .i64 r.e) ∧ w'.cell? ⟨g2, s2 + j * 4, none⟩ = some (.int .i8 y.f) ∧ w'.cell? ⟨g2, s2 + j * 4 + 1, none⟩ = some (.int .i64 y.d) ∧ w'.cell? ⟨g2, s2 + j * 4 + 2, none⟩ = some (.int .i8 y.g) ∧ w'.cell? ⟨g2, s2 + j * 4 + 3, none⟩ = some (.int .i64 y.e)) (by kernel_rfl) ?_ (fun hHeld => ?_)
     ·with_reducible exact ⟨k0z, k1z, k2z, k3z, k4z, k5z, k6z, k7z⟩
     refine tk 0 ?_ rfl hHeld ?_ ?_
     rotate_left
     ·(intro w hSw; (try dsimp only at hSw); go_simp; try with_reducible rfl)
     try simp only [pt]
     refine tk 1 ?_ rfl hHeld ?_ ?_
     rotate_left
     ·(intro w hSw; (try dsimp only at hSw); go_simp; try with_reducible rfl)
     try simp only [pt]
     refine tk 2 ?_ rfl hHeld ?_ ?_
     rotate_left
     ·(intro w hSw; (try dsimp only at hSw); go_simp; try with_reducible rfl)
     try simp only [pt]
     refine tk 3 ?_ rfl hHeld ?_ ?_
     rotate_left
     ·(intro w hSw; (try dsimp only at hSw); go_simp; try with_reducible rfl)
     try simp only [pt]
     refine tk 4 ?_ rfl hHeld ?_ ?_
     rotate_left
     ·(intro w hSw; (try dsimp only at hSw); go_simp; try with_reducible rfl)
     try simp only [pt]
     refine tk 5 ?_ rfl hHeld ?_ ?_
     rotate_left
     ·(intro w hSw; (try dsimp only at hSw); go_simp; try with_reducible rfl)
     try simp only [pt]
     refine tk 6 ?_ rfl hHeld ?_ ?_
     rotate_left
     ·(intro w hSw; (try dsimp only at hSw); go_simp; try with_reducible rfl)
     try simp only [pt]
     refine tk 7 ?_ rfl hHeld ?_ ?_
     rotate_left
     ·(intro w hSw; (try dsimp only at hSw); go_simp; try with_reducible rfl)
     try simp only [pt]
     refine tk 8 ?_ rfl hHeld ?_ ?_
     rotate_left
     ·(intro w hSw; (try dsimp only at hSw); go_simp; try with_reducible rfl)
     try simp only [pt]
     refine rd [9] ?_
     refine AllReadyH.cons (dropAt rfl) (fun K hK => ?_) AllReadyH.nil
     go_simp
     go_at_call 121
     with_reducible refine (rs.out _).mono ?_
     rintro e y1 ⟨⟨b3, p3, rfl, hn3, hlr⟩, hb⟩
     have HX_y1 := Kp.mk (HXz.out.step hb)
     have HM_y1 := Kp.mk (HMz.out.step hb)
     have HG_y1 := Kp.mk (HGz.out.step hb)
     have HS := Kp.mk (And.intro hn3 hlr)
     clear hn3 hlr
     obtain ⟨k0_y1, k1_y1, k2_y1, k3_y1⟩ := HX_y1.out.cells hr
     obtain ⟨k4_y1, k5_y1, k6_y1, k7_y1⟩ := HM_y1.out.cells hy
     clear hHeld k0z k1z k2z k3z k4z k5z k6z k7z HXz HMz HGz hb
     go_wp2_with fail
     refine hK.out _ _ ?_ (fun hHeld => ?_)
     ·with_reducible exact ⟨k0_y1, k1_y1, k2_y1, k3_y1, k4_y1, k5_y1, k6_y1, k7_y1⟩
     clear hK K
     try simp only [pt]
     refine rd [10] ?_
     refine AllReadyH.cons (dropAt rfl) (fun K hK => ?_) AllReadyH.nil
     clear hHeld k0_y1 k1_y1 k2_y1 k3_y1 k4_y1 k5_y1 k6_y1 k7_y1
     refine wp_append_ls (.tmp 30) (.tmp 39) rfl HG_y1.out HS.out.2 HS.out.1 rfl rfl (by omega) (fun vy2 y2 hgn => ?_)
     have HX := HX_y1
     have HM := HM_y1
     have HG := HG_y1
     have HG := Kp.mk hgn
     have HX := Kp.mk (HXs.out.step HG.out.below)
     have HM := Kp.mk (HMs.out.step HG.out.below)
     clear hgn HS
     obtain ⟨k0_y2, k1_y2, k2_y2, k3_y2⟩ := HX.out.cells hr
     obtain ⟨k4_y2, k5_y2, k6_y2, k7_y2⟩ := HM.out.cells hy
     refine hK.out _ _ ?_ (fun hHeld => ?_)
     ·with_reducible exact ⟨k0_y2, k1_y2, k2_y2, k3_y2, k4_y2, k5_y2, k6_y2, k7_y2⟩
     clear hK K
     try simp only [pt]
     refine tk 11 ?_ rfl hHeld ?_ ?_
     rotate_left
     ·(intro w hSw; (try dsimp only at hSw); go_simp; try with_reducible rfl)
     try simp only [pt]
     refine wpAnyH_done (by kernel_rfl) ?_ _
     clear hHeld
     have HX := HX
     have HM := HM
     have HG := HG
     clear k0_y2 k1_y2 k2_y2 k3_y2 k4_y2 k5_y2 k6_y2 k7_y2
     go_wp2_with fail
     go_roundw
     case rel => exact ⟨q + 1, os ++ lessN r y, by omega, by go_num, by rw [List.length_append]; omega, ⟨by rw [HT.out, HO.out]⟩, HG⟩
     case measure => simp [intOf]; omega
    ·obtain rfl : q = ms.length := by omega
     have hOO : os = outN ms y := by rw [HO.out, List.take_length]
     have hol2 : os.length ≤ n + (j + 1) := by
      rw [hOO]
      have := (out_len HD.out.can OY.out).1
      omega
     have HD2 : Kp (IsRs os (fun x => S x ∧ leftM (m.take (j + 1)) x)) := Kp.mk (by
      rw [hOO]
      exact (out_is HD.out OY.out).congr (left_take hy))
     have HM := Kp.mk (HMs.out.step HG.out.below)
     obtain ⟨a2, c2, rfl, hr1, _⟩ := HG.out.row HMs.out.below
     have HX2 := Kp.mk hr1
     clear hOO hr1 HO HG
     go_wp2_with fail
     go_roundw
     case rel => exact ⟨j + 1, os, a2, c2, by omega, by go_num, rfl, hol2, HD2, HM, HX2⟩
     case measure => simp [intOf]; omega
  ·obtain rfl : j = k := by omega
   have hd := HD.out
   rw [List.take_of_length_le (by omega)] at hd
   have HD := Kp.mk hd
   clear hd
   by_cases h2 : ms.length ≤ 4096
   ·have r2 := Kp.mk (fun w => refSShort_in (a := d) (p := c) h2 w)
    go_wp2_with fail
    refine (r2.out _).mono ?_
    rintro e v1 ⟨rfl, hbl⟩
    have HX := Kp.mk (HX.out.step hbl)
    clear hbl r2
    go_wp2_with fail
    go_ret2
    exact ⟨HE.out ms _ _ _ ⟨ms, HD.out, hlen, .inl ⟨h2, d, c, rfl, HX.out⟩⟩, HX.out.below⟩
   ·have r2 := Kp.mk (fun w => refSShort_out (a := d) (p := c) (Nat.lt_of_not_le h2) w)
    go_wp2_with fail
    refine (r2.out _).mono ?_
    rintro e v1 ⟨rfl, hbl⟩
    have HX := Kp.mk (HX.out.step hbl)
    clear hbl r2
    go_wp2_with fail
    go_ret2
    exact ⟨HE.out ms _ _ _ ⟨ms, HD.out, hlen, .inr ⟨Nat.lt_of_not_le h2, rfl⟩⟩, HX.out.below⟩
end
section -- RsRefC
open Go.RowKit
set_option maxRecDepth 100000

variable {w W W' : World} {a b : Option Addr} {l m : List Rn}
set_option maxHeartbeats 4000000 in
theorem refSCom_bad {c : Int} {p q : Nat} (hl : ∀ r, r ∈ l → r.In) (hm : ∀ r, r ∈ m → r.In) (nl : l.length ≤ maxLen) (nm : m.length ≤ maxLen) (al : Lr w a l w) (am : Lr w b m w) (hc : bothRs l m = c) (h0 : ¬ c = 0) :
 Calls Tryz.prog 55 #[.slice a l.length p, .slice b m.length q] w fun x w' => x = .returned (.tuple #[.slice none 0 0, .int .i64 c]) ∧ Below w.heap.size w w' := by
 have HB := Kp.mk (Bl.mk (Below.refl w.heap.size w))
 have r1 := Kp.mk (fun (x : World) (h : Below w.heap.size w x) => refSBoth_is (p := p) (q := q) hl hm nl nm (al.step h).now (am.step h).now hc)
 have t1 : (c != 0) = true := by rw [bne_iff_ne]; exact h0
 clear hc h0 hl hm nl nm al am
 generalize l.length = n at *
 generalize m.length = k at *
 go_enter Tryz.func55, Tryz.ntmps55
 go_wp2_with fail
 refine (r1.out _ HB.out.below).mono ?_
 rintro e v1 ⟨rfl, hb⟩
 have HB := Kp.mk (Bl.step HB.out hb)
 clear hb
 go_wp2_with fail
 refine (r1.out _ HB.out.below).mono ?_
 rintro e v2 ⟨rfl, hb⟩
 have HB := Kp.mk (Bl.step HB.out hb)
 clear hb
 go_wp2_with fail
 go_ret2
 exact ⟨rfl, HB.out.below⟩
theorem has_commP {x y : Rn} (hx : x.Ok) (hy : y.Ok) (h : x.lo ≤ y.hi ∧ y.lo ≤ x.hi) (z : Int) : (commN x y).has z ↔ x.has z ∧ y.has z := by
 obtain ⟨_, l1, l2⟩ := comm_ok hx hy h
 unfold Rn.has
 rw [l1, l2]
 by_cases c1 : x.lo < y.lo <;> by_cases c2 : y.hi < x.hi <;> simp only [c1, c2, if_true, if_false] <;> omega
theorem no_comm {x y : Rn} (h : ¬ (x.lo ≤ y.hi ∧ y.lo ≤ x.hi)) (z : Int) : ¬ (x.has z ∧ y.has z) := by
 unfold Rn.has
 omega
/-- what the first i runs, and the next one with the first j, have in common -/
def ComS (l m : List Rn) (r : Rn) (i j : Nat) (x : Int) : Prop := (memR (l.take i) x ∧ memR m x) ∨ (r.has x ∧ memR (m.take j) x)
theorem com_zero (r : Rn) (i : Nat) (x : Int) : (memR (l.take i) x ∧ memR m x) ↔ ComS l m r i 0 x := ⟨.inl, fun h => h.elim id (fun h => absurd h.2 (memR_nil x))⟩
theorem com_end {r : Rn} {i : Nat} (hr : l[i]? = some r) {k : Nat} (hk : m.length ≤ k) (x : Int) : ComS l m r i k x ↔ (memR (l.take (i + 1)) x ∧ memR m x) := by
 unfold ComS
 rw [List.take_of_length_le hk, ← take_mem hr x]
 constructor
 ·rintro (h | h)
  ·exact ⟨.inl h.1, h.2⟩
  ·exact ⟨.inr h.1, h.2⟩
 ·rintro ⟨h | h, h2⟩
  ·exact .inl ⟨h, h2⟩
  ·exact .inr ⟨h, h2⟩
theorem com_step {r y : Rn} {i j : Nat} (hy : m[j]? = some y) {P : Prop} {x : Int} (hp : P ↔ r.has x ∧ y.has x) : (ComS l m r i j x ∨ P) ↔ ComS l m r i (j + 1) x := by
 unfold ComS
 rw [← take_mem hy x, hp]
 constructor
 ·rintro ((h | h) | h)
  ·exact .inl h
  ·exact .inr ⟨h.1, .inl h.2⟩
  ·exact .inr ⟨h.1, .inr h.2⟩
 ·rintro (h | ⟨h, h2 | h2⟩)
  ·exact .inl (.inl h)
  ·exact .inl (.inr ⟨h, h2⟩)
  ·exact .inr ⟨h, h2⟩
set_option maxHeartbeats 8000000 in
theorem refSCom_is {p q : Nat} (hl : ∀ r, r ∈ l → r.In) (hm : ∀ r, r ∈ m → r.In) (nl : l.length ≤ maxLen) (nm : m.length ≤ maxLen) (al : Lr w a l w) (am : Lr w b m w) (hc : bothRs l m = 0) :
 Calls Tryz.prog 55 #[.slice a l.length p, .slice b m.length q] w fun x w' => ShortOf (fun x => memR l x ∧ memR m x) 16777216 w x w' ∧ Below w.heap.size w w' := by
 have HL := Kp.mk al
 have HM := Kp.mk am
 have r1 := Kp.mk (fun (x : World) (h : Below w.heap.size w x) => refSBoth_is (p := p) (q := q) hl hm nl nm (al.step h).now (am.step h).now hc)
 obtain ⟨⟨nl2, cl⟩, nm2, cm⟩ := both_zero hl hm hc
 have CL := Kp.mk cl
 have CM := Kp.mk cm
 have HD : Kp (IsRs [] (fun x => memR (l.take 0) x ∧ memR m x)) := Kp.mk ⟨rsc_nil, fun x => ⟨fun h => absurd h (memR_nil x), fun h => absurd h.1 (memR_nil x)⟩⟩
 clear hl hm nl nm al am hc cl cm
 obtain ⟨n, hnn⟩ : ∃ n, l.length = n := ⟨_, rfl⟩
 obtain ⟨k, hkk⟩ : ∃ k, m.length = k := ⟨_, rfl⟩
 rw [hnn, hkk] at r1 ⊢
 rw [hnn] at nl2
 rw [hkk] at nm2
 go_enter Tryz.func55, Tryz.ntmps55
 go_wp2_with fail
 refine (r1.out _ HL.out.below).mono ?_
 rintro e v1 ⟨rfl, hb⟩
 have HL := Kp.mk (HL.out.step hb)
 have HM := Kp.mk (HM.out.step hb)
 clear hb r1
 go_wp2_with fail
 go_loopw [6, 7, 8] (fun v i _ wr => ∃ (p : Nat) (ms : List Rn) (d : Option Addr) (c : Nat), p ≤ n ∧ i = .int .i64 (p : Int) ∧ v = .slice d ms.length c ∧ ms.length ≤ p * 4096 ∧ Kp (IsRs ms (fun x => memR (l.take p) x ∧ memR m x)) ∧ Kp (Lr w a l wr) ∧ Kp (Lr w b m wr) ∧ Kp (Lr w d ms wr)) (fun _ i _ _ => n - (intOf i).toNat)
 case atStart => exact ⟨0, [], none, 0, by omega, rfl, rfl, by simp, HD, HL, HM, ⟨lr_nil HL.out.below⟩⟩
 case round =>
  obtain ⟨p, ms, d, c, hp, rfl, rfl, hlen, HD, HL, HM, HX⟩ := hrel
  by_cases h1 : p < n
  ·have t1 : decide ((p : Int) < (n : Int)) = true := decide_eq_true (by omega)
   have b1 : (p : Int) < (n : Int) := by omega
   obtain ⟨r, hr⟩ : ∃ r, l[p]? = some r := ⟨l[p]'(by omega), List.getElem?_eq_getElem (by omega)⟩
   obtain ⟨g, s, rfl⟩ := HL.out.place hr
   have OR := Kp.mk (CL.out.ok r (List.mem_of_getElem? hr))
   have wp1 : IntKind.i64.wrap ((p : Int) + 1) = (p : Int) + 1 := IntWalk.i64_in _ (by omega)
   have HD := Kp.mk (HD.out.congr (com_zero r p))
   go_wp2_with fail
   clear t1
   go_loopw [6, 8] (fun v i wr => ∃ (j : Nat) (ms : List Rn) (d : Option Addr) (c : Nat), j ≤ k ∧ i = .int .i64 (j : Int) ∧ v = .slice d ms.length c ∧ ms.length ≤ p * 4096 + j ∧ Kp (IsRs ms (ComS l m r p j)) ∧ Kp (Lr w (some ⟨g, s, none⟩) l wr) ∧ Kp (Lr w b m wr) ∧ Kp (Lr w d ms wr)) (fun _ i _ => k - (intOf i).toNat)
   case atStart => exact ⟨0, ms, d, c, by omega, rfl, rfl, by omega, HD, HL, HM, HX⟩
   case round =>
    obtain ⟨j, ms, d, c, hj, rfl, rfl, hlen, HD, HL, HM, HX⟩ := hrel
    by_cases h2 : j < k
    ·have t2 : decide ((j : Int) < (k : Int)) = true := decide_eq_true (by omega)
     have b2 : (j : Int) < (k : Int) := by omega
     obtain ⟨y, hy⟩ : ∃ y, m[j]? = some y := ⟨m[j]'(by omega), List.getElem?_eq_getElem (by omega)⟩
     obtain ⟨g2, s2, rfl⟩ := HM.out.place hy
     have hyo := CM.out.ok y (List.mem_of_getElem? hy)
     have wj1 : IntKind.i64.wrap ((j : Int) + 1) = (j : Int) + 1 := IntWalk.i64_in _ (by omega)
     obtain ⟨t, ht⟩ : ∃ t, decide (r.lo ≤ y.hi ∧ y.lo ≤ r.hi) = t := ⟨_, rfl⟩
     have ro := Kp.mk (fun w => refOver_is OR.out hyo ht w)
     cases t with
     | true =>
      have hmt := of_decide_eq_true ht
      obtain ⟨z, hz⟩ : ∃ z, commN r y = z := ⟨_, rfl⟩
      have rc := Kp.mk (fun w => refComm_is hz w)
      have hzo : z.Ok := by rw [← hz]; exact (comm_ok OR.out hyo hmt).1
      have rp := Kp.mk (fun (W : World) (h : Lr w d ms W) => refSPut_is (cap := c) HD.out.can hzo (by omega) h.now)
      have HC := Kp.mk (fun x => (com_step (l := l) (m := m) (r := r) (i := p) hy (P := z.has x) (x := x) (by rw [← hz]; exact has_commP OR.out hyo hmt x)))
      clear ht hyo hmt hz hzo
      go_upto_region 10 with fail
      have hbl := (Below.refl wr.heap.size wr).drew
      have HLz := Kp.mk (HL.out.step hbl)
      have HMz := Kp.mk (HM.out.step hbl)
      have HXz := Kp.mk (HX.out.step hbl)
      obtain ⟨k0z, k1z, k2z, k3z⟩ := HLz.out.cells hr
      obtain ⟨k4z, k5z, k6z, k7z⟩ := HMz.out.cells hy
      clear hbl
      refine wp_region_held_drew (S := fun w' => w'.cell? ⟨g, s + p * 4, none⟩ = some (.int .i8 r.f) ∧ w'.cell? ⟨g, s + p * 4 + 1, none⟩ = some (.int .i64 r.d) ∧ w'.cell? ⟨g, s + p * 4 + 2, none⟩ = some (.int .i8 r.g) ∧ w'.cell? ⟨g, s + p * 4 + 3, none⟩ = some (.int .i64 r.e) ∧ w'.cell? ⟨g2, s2 + j * 4, none⟩ = some (.int .i8 y.f) ∧ w'.cell? ⟨g2, s2 + j * 4 + 1, none⟩ = some (.int .i64 y.d) ∧ w'.cell? ⟨g2, s2 + j * 4 + 2, none⟩ = some (.int .i8 y.g) ∧ w'.cell? ⟨g2, s2 + j * 4 + 3, none⟩ = some (.int .i64 y.e)) (by kernel_rfl) ?_ (fun hHeld => ?_)
      ·with_reducible exact ⟨k0z, k1z, k2z, k3z, k4z, k5z, k6z, k7z⟩
      refine tk 0 ?_ rfl hHeld ?_ ?_
      rotate_left
      ·(intro w hSw; (try dsimp only at hSw); go_simp; try with_reducible rfl)
      try simp only [pt]
      refine tk 1 ?_ rfl hHeld ?_ ?_
      rotate_left
      ·(intro w hSw; (try dsimp only at hSw); go_simp; try with_reducible rfl)
      try simp only [pt]
      refine tk 2 ?_ rfl hHeld ?_ ?_
      rotate_left
      ·(intro w hSw; (try dsimp only at hSw); go_simp; try with_reducible rfl)
      try simp only [pt]
      refine tk 3 ?_ rfl hHeld ?_ ?_
      rotate_left
      ·(intro w hSw; (try dsimp only at hSw); go_simp; try with_reducible rfl)
      try simp only [pt]
      refine tk 4 ?_ rfl hHeld ?_ ?_
      rotate_left
      ·(intro w hSw; (try dsimp only at hSw); go_simp; try with_reducible rfl)
      try simp only [pt]
      refine tk 5 ?_ rfl hHeld ?_ ?_
      rotate_left
      ·(intro w hSw; (try dsimp only at hSw); go_simp; try with_reducible rfl)
      try simp only [pt]
      refine tk 6 ?_ rfl hHeld ?_ ?_
      rotate_left
      ·(intro w hSw; (try dsimp only at hSw); go_simp; try with_reducible rfl)
      try simp only [pt]
      refine tk 7 ?_ rfl hHeld ?_ ?_
      rotate_left
      ·(intro w hSw; (try dsimp only at hSw); go_simp; try with_reducible rfl)
      try simp only [pt]
      refine rd [8] ?_
      refine AllReadyH.cons (dropAt rfl) (fun K hK => ?_) AllReadyH.nil
      go_simp
      go_at_call 19
      with_reducible refine (ro.out _).mono ?_
      rintro e y1 ⟨rfl, hb⟩
      have HL_y1 := Kp.mk (HLz.out.step hb)
      have HM_y1 := Kp.mk (HMz.out.step hb)
      have HX_y1 := Kp.mk (HXz.out.step hb)
      obtain ⟨k0_y1, k1_y1, k2_y1, k3_y1⟩ := HL_y1.out.cells hr
      obtain ⟨k4_y1, k5_y1, k6_y1, k7_y1⟩ := HM_y1.out.cells hy
      clear hHeld k0z k1z k2z k3z k4z k5z k6z k7z HLz HMz HXz hb
      go_wp2_with fail
      refine hK.out _ _ ?_ (fun hHeld => ?_)
      ·with_reducible exact ⟨k0_y1, k1_y1, k2_y1, k3_y1, k4_y1, k5_y1, k6_y1, k7_y1⟩
      clear hK K
      try simp only [pt]
      refine wpAnyH_done (by kernel_rfl) ?_ _
      clear hHeld
      have HL := HL_y1
      have HM := HM_y1
      have HX := HX_y1
      clear k0_y1 k1_y1 k2_y1 k3_y1 k4_y1 k5_y1 k6_y1 k7_y1
      go_upto_region 11 with fail
      have hbl := (Below.refl y1.heap.size y1).drew
      have HLz := Kp.mk (HL.out.step hbl)
      have HMz := Kp.mk (HM.out.step hbl)
      have HXz := Kp.mk (HX.out.step hbl)
      obtain ⟨k0z, k1z, k2z, k3z⟩ := HLz.out.cells hr
      obtain ⟨k4z, k5z, k6z, k7z⟩ := HMz.out.cells hy
      clear hbl
      refine wp_region_held_drew (S := fun w' => w'.cell? ⟨g, s + p * 4, none⟩ = some (.int .i8 r.f) ∧ w'.cell? ⟨g, s + p * 4 + 1, none⟩ = some (.int .i64 r.d) ∧ w'.cell? ⟨g, s + p * 4 + 2, none⟩ = some (.int .i8 r.g) ∧ w'.cell? ⟨g, s + p * 4 + 3, none⟩ = some (.int .i64 r.e) ∧ w'.cell? ⟨g2, s2 + j * 4, none⟩ = some (.int .i8 y.f) ∧ w'.cell? ⟨g2, s2 + j * 4 + 1, none⟩ = some (.int .i64 y.d) ∧ w'.cell? ⟨g2, s2 + j * 4 + 2, none⟩ = some (.int .i8 y.g) ∧ w'.cell? ⟨g2, s2 + j * 4 + 3, none⟩ = some (.int .i64 y.e)) (by kernel_rfl) ?_ (fun hHeld => ?_)
      ·with_reducible exact ⟨k0z, k1z, k2z, k3z, k4z, k5z, k6z, k7z⟩
      refine tk 0 ?_ rfl hHeld ?_ ?_
      rotate_left
      ·(intro w hSw; (try dsimp only at hSw); go_simp; try with_reducible rfl)
      try simp only [pt]
      refine tk 1 ?_ rfl hHeld ?_ ?_
      rotate_left
      ·(intro w hSw; (try dsimp only at hSw); go_simp; try with_reducible rfl)
      try simp only [pt]
      refine tk 2 ?_ rfl hHeld ?_ ?_
      rotate_left
      ·(intro w hSw; (try dsimp only at hSw); go_simp; try with_reducible rfl)
      try simp only [pt]
      refine tk 3 ?_ rfl hHeld ?_ ?_
      rotate_left
      ·(intro w hSw; (try dsimp only at hSw); go_simp; try with_reducible rfl)
      try simp only [pt]
      refine tk 4 ?_ rfl hHeld ?_ ?_
      rotate_left
      ·(intro w hSw; (try dsimp only at hSw); go_simp; try with_reducible rfl)
      try simp only [pt]
      refine tk 5 ?_ rfl hHeld ?_ ?_
      rotate_left
      ·(intro w hSw; (try dsimp only at hSw); go_simp; try with_reducible rfl)
      try simp only [pt]
      refine tk 6 ?_ rfl hHeld ?_ ?_
      rotate_left
      ·(intro w hSw; (try dsimp only at hSw); go_simp; try with_reducible rfl)
      try simp only [pt]
      refine tk 7 ?_ rfl hHeld ?_ ?_
      rotate_left
      ·(intro w hSw; (try dsimp only at hSw); go_simp; try with_reducible rfl)
      try simp only [pt]
      refine tk 8 ?_ rfl hHeld ?_ ?_
      rotate_left
      ·(intro w hSw; (try dsimp only at hSw); go_simp; try with_reducible rfl)
      try simp only [pt]
      refine rd [9] ?_
      refine AllReadyH.cons (dropAt rfl) (fun K hK => ?_) AllReadyH.nil
      go_simp
      go_at_call 25
      with_reducible refine (rc.out _).mono ?_
      rintro e y2 ⟨rfl, hb⟩
      have HL_y2 := Kp.mk (HLz.out.step hb)
      have HM_y2 := Kp.mk (HMz.out.step hb)
      have HX_y2 := Kp.mk (HXz.out.step hb)
      obtain ⟨k0_y2, k1_y2, k2_y2, k3_y2⟩ := HL_y2.out.cells hr
      obtain ⟨k4_y2, k5_y2, k6_y2, k7_y2⟩ := HM_y2.out.cells hy
      clear hHeld k0z k1z k2z k3z k4z k5z k6z k7z HLz HMz HXz hb
      go_wp2_with fail
      refine hK.out _ _ ?_ (fun hHeld => ?_)
      ·with_reducible exact ⟨k0_y2, k1_y2, k2_y2, k3_y2, k4_y2, k5_y2, k6_y2, k7_y2⟩
      clear hK K
      try simp only [pt]
      refine rd [10] ?_
      refine AllReadyH.cons (dropAt rfl) (fun K hK => ?_) AllReadyH.nil
      go_simp
      go_at_call 119
      with_reducible refine (rp.out _ HX_y2.out).mono ?_
      rintro e y3 ⟨⟨m2, b3, p2, rfl, hm2, hlen2, hlr⟩, hb⟩
      have HL_y3 := Kp.mk (HL_y2.out.step hb)
      have HM_y3 := Kp.mk (HM_y2.out.step hb)
      have HX_y3 := Kp.mk (HX_y2.out.step hb)
      have HX_y3 : Kp (Lr w b3 m2 y3) := Kp.mk ⟨HL_y3.out.below, hlr.at4⟩
      have HD2 : Kp (IsRs m2 (ComS l m r p (j + 1))) := Kp.mk (hm2.congr (fun x => Iff.trans (or_congr (HD.out.mem x) Iff.rfl) (HC.out x)))
      clear hlr hm2
      obtain ⟨k0_y3, k1_y3, k2_y3, k3_y3⟩ := HL_y3.out.cells hr
      obtain ⟨k4_y3, k5_y3, k6_y3, k7_y3⟩ := HM_y3.out.cells hy
      clear hHeld k0_y2 k1_y2 k2_y2 k3_y2 k4_y2 k5_y2 k6_y2 k7_y2 HL_y2 HM_y2 HX_y2 hb
      go_wp2_with fail
      refine hK.out _ _ ?_ (fun hHeld => ?_)
      ·with_reducible exact ⟨k0_y3, k1_y3, k2_y3, k3_y3, k4_y3, k5_y3, k6_y3, k7_y3⟩
      clear hK K
      try simp only [pt]
      refine tk 11 ?_ rfl hHeld ?_ ?_
      rotate_left
      ·(intro w hSw; (try dsimp only at hSw); go_simp; try with_reducible rfl)
      try simp only [pt]
      refine wpAnyH_done (by kernel_rfl) ?_ _
      clear hHeld
      have HL := HL_y3
      have HM := HM_y3
      have HX := HX_y3
      clear k0_y3 k1_y3 k2_y3 k3_y3 k4_y3 k5_y3 k6_y3 k7_y3
      go_wp2_with fail
      go_roundw
      case rel => exact ⟨j + 1, m2, b3, p2, by omega, by go_num, rfl, by omega, HD2, HL, HM, HX⟩
      case measure => simp [intOf]; omega
     | false =>
      have hmt := of_decide_eq_false ht
      have HD := Kp.mk (HD.out.congr (fun x => Iff.trans ⟨.inl, fun h => h.elim id False.elim⟩ (com_step (l := l) (m := m) (r := r) (i := p) (j := j) hy (P := False) (x := x) ⟨False.elim, fun h => no_comm hmt x h⟩)))
      clear ht hyo hmt
      go_upto_region 10 with fail
      have hbl := (Below.refl wr.heap.size wr).drew
      have HLz := Kp.mk (HL.out.step hbl)
      have HMz := Kp.mk (HM.out.step hbl)
      have HXz := Kp.mk (HX.out.step hbl)
      obtain ⟨k0z, k1z, k2z, k3z⟩ := HLz.out.cells hr
      obtain ⟨k4z, k5z, k6z, k7z⟩ := HMz.out.cells hy
      clear hbl
      refine wp_region_held_drew (S := fun w' => w'.cell? ⟨g, s + p * 4, none⟩ = some (.int .i8 r.f) ∧ w'.cell? ⟨g, s + p * 4 + 1, none⟩ = some (.int .i64 r.d) ∧ w'.cell? ⟨g, s + p * 4 + 2, none⟩ = some (.int .i8 r.g) ∧ w'.cell? ⟨g, s + p * 4 + 3, none⟩ = some (.int .i64 r.e) ∧ w'.cell? ⟨g2, s2 + j * 4, none⟩ = some (.int .i8 y.f) ∧ w'.cell? ⟨g2, s2 + j * 4 + 1, none⟩ = some (.int .i64 y.d) ∧ w'.cell? ⟨g2, s2 + j * 4 + 2, none⟩ = some (.int .i8 y.g) ∧ w'.cell? ⟨g2, s2 + j * 4 + 3, none⟩ = some (.int .i64 y.e)) (by kernel_rfl) ?_ (fun hHeld => ?_)
      ·with_reducible exact ⟨k0z, k1z, k2z, k3z, k4z, k5z, k6z, k7z⟩
      refine tk 0 ?_ rfl hHeld ?_ ?_
      rotate_left
      ·(intro w hSw; (try dsimp only at hSw); go_simp; try with_reducible rfl)
      try simp only [pt]
      refine tk 1 ?_ rfl hHeld ?_ ?_
      rotate_left
      ·(intro w hSw; (try dsimp only at hSw); go_simp; try with_reducible rfl)
      try simp only [pt]
      refine tk 2 ?_ rfl hHeld ?_ ?_
      rotate_left
      ·(intro w hSw; (try dsimp only at hSw); go_simp; try with_reducible rfl)
      try simp only [pt]
      refine tk 3 ?_ rfl hHeld ?_ ?_
      rotate_left
      ·(intro w hSw; (try dsimp only at hSw); go_simp; try with_reducible rfl)
      try simp only [pt]
      refine tk 4 ?_ rfl hHeld ?_ ?_
      rotate_left
      ·(intro w hSw; (try dsimp only at hSw); go_simp; try with_reducible rfl)
      try simp only [pt]
      refine tk 5 ?_ rfl hHeld ?_ ?_
      rotate_left
      ·(intro w hSw; (try dsimp only at hSw); go_simp; try with_reducible rfl)
      try simp only [pt]
      refine tk 6 ?_ rfl hHeld ?_ ?_
      rotate_left
      ·(intro w hSw; (try dsimp only at hSw); go_simp; try with_reducible rfl)
      try simp only [pt]
      refine tk 7 ?_ rfl hHeld ?_ ?_
      rotate_left
      ·(intro w hSw; (try dsimp only at hSw); go_simp; try with_reducible rfl)
      try simp only [pt]
      refine rd [8] ?_
      refine AllReadyH.cons (dropAt rfl) (fun K hK => ?_) AllReadyH.nil
      go_simp
      go_at_call 19
      with_reducible refine (ro.out _).mono ?_
      rintro e y1 ⟨rfl, hb⟩
      have HL_y1 := Kp.mk (HLz.out.step hb)
      have HM_y1 := Kp.mk (HMz.out.step hb)
      have HX_y1 := Kp.mk (HXz.out.step hb)
      obtain ⟨k0_y1, k1_y1, k2_y1, k3_y1⟩ := HL_y1.out.cells hr
      obtain ⟨k4_y1, k5_y1, k6_y1, k7_y1⟩ := HM_y1.out.cells hy
      clear hHeld k0z k1z k2z k3z k4z k5z k6z k7z HLz HMz HXz hb
      go_wp2_with fail
      refine hK.out _ _ ?_ (fun hHeld => ?_)
      ·with_reducible exact ⟨k0_y1, k1_y1, k2_y1, k3_y1, k4_y1, k5_y1, k6_y1, k7_y1⟩
      clear hK K
      try simp only [pt]
      refine wpAnyH_done (by kernel_rfl) ?_ _
      clear hHeld
      have HL := HL_y1
      have HM := HM_y1
      have HX := HX_y1
      clear k0_y1 k1_y1 k2_y1 k3_y1 k4_y1 k5_y1 k6_y1 k7_y1
      go_wp2_with fail
      go_roundw
      case rel => exact ⟨j + 1, ms, d, c, by omega, by go_num, rfl, by omega, HD, HL, HM, HX⟩
      case measure => simp [intOf]; omega
    ·obtain rfl : j = k := by omega
     have HD := Kp.mk (HD.out.congr (com_end hr (Nat.le_of_eq hkk)))
     go_wp2_with fail
     go_roundw
     case rel => exact ⟨p + 1, ms, d, c, by omega, by go_num, rfl, by omega, HD, HL, HM, HX⟩
     case measure => simp [intOf]; omega
  ·obtain rfl : p = n := by omega
   have hd := HD.out
   rw [List.take_of_length_le (by omega)] at hd
   have HD := Kp.mk hd
   clear hd
   by_cases h2 : ms.length ≤ 4096
   ·have r2 := Kp.mk (fun w => refSShort_in (a := d) (p := c) h2 w)
    go_wp2_with fail
    refine (r2.out _).mono ?_
    rintro e v1 ⟨rfl, hbl⟩
    have HX := Kp.mk (HX.out.step hbl)
    clear hbl r2
    go_wp2_with fail
    go_ret2
    exact ⟨⟨ms, HD.out, by omega, .inl ⟨h2, d, c, rfl, HX.out⟩⟩, HX.out.below⟩
   ·have r2 := Kp.mk (fun w => refSShort_out (a := d) (p := c) (Nat.lt_of_not_le h2) w)
    go_wp2_with fail
    refine (r2.out _).mono ?_
    rintro e v1 ⟨rfl, hbl⟩
    have HX := Kp.mk (HX.out.step hbl)
    clear hbl r2
    go_wp2_with fail
    go_ret2
    exact ⟨⟨ms, HD.out, by omega, .inr ⟨Nat.lt_of_not_le h2, rfl⟩⟩, HX.out.below⟩
end
section -- RnRefI
open Go.RowKit
set_option maxRecDepth 100000

set_option maxHeartbeats 4000000 in
theorem refIn_is {a b : Rn} {v : Bool} (ha : a.Ok) (hb : b.Ok) (hv : decide (b.lo ≤ a.lo ∧ a.hi ≤ b.hi) = v) (w : World) :
 Calls Tryz.prog 27 #[.agg #[.int .i8 a.f, .int .i64 a.d, .int .i8 a.g, .int .i64 a.e], .agg #[.int .i8 b.f, .int .i64 b.d, .int .i8 b.g, .int .i64 b.e]] w fun x w' => x = .returned (.bool v) ∧ Below w.heap.size w w' := by
 have HA := Kp.mk (rg_two w a b).1
 have HC := Kp.mk (rg_two w a b).2
 have HB := Kp.mk (bl_of HA.out)
 have hj := join_within ha hb
 have p3 := ha.pos.le
 by_cases hm : a.lo ≤ b.hi ∧ b.lo ≤ a.hi
 ·have r1 := Kp.mk (fun w => refOver_is ha hb (decide_eq_true hm) w)
  obtain ⟨j, hjn⟩ : ∃ j, joinN a b = j := ⟨_, rfl⟩
  have r2 := Kp.mk (fun w => refJoin_is hjn w)
  rw [hjn] at hj
  by_cases he : j = b
  ·obtain rfl : true = v := by rw [← hv, decide_eq_true_iff.2 (hj.1 he)]
   have r2 : Kp (∀ w, Calls Tryz.prog 24 #[.agg #[.int .i8 a.f, .int .i64 a.d, .int .i8 a.g, .int .i64 a.e], .agg #[.int .i8 b.f, .int .i64 b.d, .int .i8 b.g, .int .i64 b.e]] w fun x w' => x = .returned (.agg #[.int .i8 b.f, .int .i64 b.d, .int .i8 b.g, .int .i64 b.e]) ∧ Below w.heap.size w w') := by rw [← he]; rw [he] at r2 ⊢; exact r2
   clear hj hjn p3 hm hv ha hb he
   go_enter Tryz.func27, Tryz.ntmps27
   go_upto_region 1 with fail
   generalize ((w.alloc (.cells #[.int .i8 a.f, .int .i64 a.d, .int .i8 a.g, .int .i64 a.e] 26)).alloc (.cells #[.int .i8 b.f, .int .i64 b.d, .int .i8 b.g, .int .i64 b.e] 26)) = w0 at *
   have kHA0 := HA.out.c0
   have kHA1 := HA.out.c1
   have kHA2 := HA.out.c2
   have kHA3 := HA.out.c3
   have kHC0 := HC.out.c0
   have kHC1 := HC.out.c1
   have kHC2 := HC.out.c2
   have kHC3 := HC.out.c3
   have hbl := (Below.refl w0.heap.size w0).drew
   have HBz := Kp.mk (HB.out.step hbl)
   have HAz := Kp.mk (HA.out.step hbl)
   have HCz := Kp.mk (HC.out.step hbl)
   have kHA0z := HAz.out.c0
   have kHA1z := HAz.out.c1
   have kHA2z := HAz.out.c2
   have kHA3z := HAz.out.c3
   have kHC0z := HCz.out.c0
   have kHC1z := HCz.out.c1
   have kHC2z := HCz.out.c2
   have kHC3z := HCz.out.c3
   clear hbl
   go_region_held3 (fun w' => w'.cell? ⟨w.heap.size, 0, none⟩ = some (.int .i8 a.f) ∧ w'.cell? ⟨w.heap.size, 1, none⟩ = some (.int .i64 a.d) ∧ w'.cell? ⟨w.heap.size, 2, none⟩ = some (.int .i8 a.g) ∧ w'.cell? ⟨w.heap.size, 3, none⟩ = some (.int .i64 a.e) ∧ w'.cell? ⟨w.heap.size + 1, 0, none⟩ = some (.int .i8 b.f) ∧ w'.cell? ⟨w.heap.size + 1, 1, none⟩ = some (.int .i64 b.d) ∧ w'.cell? ⟨w.heap.size + 1, 2, none⟩ = some (.int .i8 b.g) ∧ w'.cell? ⟨w.heap.size + 1, 3, none⟩ = some (.int .i64 b.e)) (first | (with_reducible exact ⟨kHA0, kHA1, kHA2, kHA3, kHC0, kHC1, kHC2, kHC3⟩) | (with_reducible exact ⟨kHA0z, kHA1z, kHA2z, kHA3z, kHC0z, kHC1z, kHC2z, kHC3z⟩) | (with_reducible exact ⟨kHA0_u1, kHA1_u1, kHA2_u1, kHA3_u1, kHC0_u1, kHC1_u1, kHC2_u1, kHC3_u1⟩) | (with_reducible exact ⟨kHA0_u2, kHA1_u2, kHA2_u2, kHA3_u2, kHC0_u2, kHC1_u2, kHC2_u2, kHC3_u2⟩) | go_keep)
    (first
     | (go_at_call 19; (with_reducible show Calls _ _ _ w0.drew _); (with_reducible refine (r1.out _).mono ?_); rintro e u1 ⟨rfl, hb⟩; have HB_u1 := Kp.mk (HBz.out.step hb); have HA_u1 := Kp.mk (HAz.out.step hb); have HC_u1 := Kp.mk (HCz.out.step hb); have kHA0_u1 := HA_u1.out.c0; have kHA1_u1 := HA_u1.out.c1; have kHA2_u1 := HA_u1.out.c2; have kHA3_u1 := HA_u1.out.c3; have kHC0_u1 := HC_u1.out.c0; have kHC1_u1 := HC_u1.out.c1; have kHC2_u1 := HC_u1.out.c2; have kHC3_u1 := HC_u1.out.c3; clear hb)
     | (go_at_call 24; (with_reducible show Calls _ _ _ u1 _); (with_reducible refine (r2.out _).mono ?_); rintro e u2 ⟨rfl, hb⟩; have HB_u2 := Kp.mk (HB_u1.out.step hb); have HA_u2 := Kp.mk (HA_u1.out.step hb); have HC_u2 := Kp.mk (HC_u1.out.step hb); have kHA0_u2 := HA_u2.out.c0; have kHA1_u2 := HA_u2.out.c1; have kHA2_u2 := HA_u2.out.c2; have kHA3_u2 := HA_u2.out.c3; have kHC0_u2 := HC_u2.out.c0; have kHC1_u2 := HC_u2.out.c1; have kHC2_u2 := HC_u2.out.c2; have kHC3_u2 := HC_u2.out.c3; clear hb))
   have HB := HB_u2
   have HA := HA_u2
   have HC := HC_u2
   have kHA0 := HA.out.c0
   have kHA1 := HA.out.c1
   have kHA2 := HA.out.c2
   have kHA3 := HA.out.c3
   have kHC0 := HC.out.c0
   have kHC1 := HC.out.c1
   have kHC2 := HC.out.c2
   have kHC3 := HC.out.c3
   go_wp2_with fail
   go_ret
   exact ⟨rfl, HB.out.below⟩
  ·obtain rfl : false = v := by rw [← hv, decide_eq_false_iff_not.2 (fun q => he (hj.2 q))]
   by_cases x0 : j.f = b.f
   ·have e0 : (j.f == b.f) = true := by rw [beq_iff_eq]; exact x0
    by_cases x1 : j.d = b.d
    ·have e1 : (j.d == b.d) = true := by rw [beq_iff_eq]; exact x1
     by_cases x2 : j.g = b.g
     ·have e2 : (j.g == b.g) = true := by rw [beq_iff_eq]; exact x2
      have e3 : (j.e == b.e) = false := by
       rw [beq_eq_false_iff_ne]; intro q; apply he; cases j; cases b; simp only at x0 x1 x2 q; rw [x0, x1, x2, q]
      clear hj hjn p3 hm hv ha hb he x0 x1 x2
      go_enter Tryz.func27, Tryz.ntmps27
      go_upto_region 1 with fail
      generalize ((w.alloc (.cells #[.int .i8 a.f, .int .i64 a.d, .int .i8 a.g, .int .i64 a.e] 26)).alloc (.cells #[.int .i8 b.f, .int .i64 b.d, .int .i8 b.g, .int .i64 b.e] 26)) = w0 at *
      have kHA0 := HA.out.c0
      have kHA1 := HA.out.c1
      have kHA2 := HA.out.c2
      have kHA3 := HA.out.c3
      have kHC0 := HC.out.c0
      have kHC1 := HC.out.c1
      have kHC2 := HC.out.c2
      have kHC3 := HC.out.c3
      have hbl := (Below.refl w0.heap.size w0).drew
      have HBz := Kp.mk (HB.out.step hbl)
      have HAz := Kp.mk (HA.out.step hbl)
      have HCz := Kp.mk (HC.out.step hbl)
      have kHA0z := HAz.out.c0
      have kHA1z := HAz.out.c1
      have kHA2z := HAz.out.c2
      have kHA3z := HAz.out.c3
      have kHC0z := HCz.out.c0
      have kHC1z := HCz.out.c1
      have kHC2z := HCz.out.c2
      have kHC3z := HCz.out.c3
      clear hbl
      go_region_held3 (fun w' => w'.cell? ⟨w.heap.size, 0, none⟩ = some (.int .i8 a.f) ∧ w'.cell? ⟨w.heap.size, 1, none⟩ = some (.int .i64 a.d) ∧ w'.cell? ⟨w.heap.size, 2, none⟩ = some (.int .i8 a.g) ∧ w'.cell? ⟨w.heap.size, 3, none⟩ = some (.int .i64 a.e) ∧ w'.cell? ⟨w.heap.size + 1, 0, none⟩ = some (.int .i8 b.f) ∧ w'.cell? ⟨w.heap.size + 1, 1, none⟩ = some (.int .i64 b.d) ∧ w'.cell? ⟨w.heap.size + 1, 2, none⟩ = some (.int .i8 b.g) ∧ w'.cell? ⟨w.heap.size + 1, 3, none⟩ = some (.int .i64 b.e)) (first | (with_reducible exact ⟨kHA0, kHA1, kHA2, kHA3, kHC0, kHC1, kHC2, kHC3⟩) | (with_reducible exact ⟨kHA0z, kHA1z, kHA2z, kHA3z, kHC0z, kHC1z, kHC2z, kHC3z⟩) | (with_reducible exact ⟨kHA0_u1, kHA1_u1, kHA2_u1, kHA3_u1, kHC0_u1, kHC1_u1, kHC2_u1, kHC3_u1⟩) | (with_reducible exact ⟨kHA0_u2, kHA1_u2, kHA2_u2, kHA3_u2, kHC0_u2, kHC1_u2, kHC2_u2, kHC3_u2⟩) | go_keep)
       (first
        | (go_at_call 19; (with_reducible show Calls _ _ _ w0.drew _); (with_reducible refine (r1.out _).mono ?_); rintro e u1 ⟨rfl, hb⟩; have HB_u1 := Kp.mk (HBz.out.step hb); have HA_u1 := Kp.mk (HAz.out.step hb); have HC_u1 := Kp.mk (HCz.out.step hb); have kHA0_u1 := HA_u1.out.c0; have kHA1_u1 := HA_u1.out.c1; have kHA2_u1 := HA_u1.out.c2; have kHA3_u1 := HA_u1.out.c3; have kHC0_u1 := HC_u1.out.c0; have kHC1_u1 := HC_u1.out.c1; have kHC2_u1 := HC_u1.out.c2; have kHC3_u1 := HC_u1.out.c3; clear hb)
        | (go_at_call 24; (with_reducible show Calls _ _ _ u1 _); (with_reducible refine (r2.out _).mono ?_); rintro e u2 ⟨rfl, hb⟩; have HB_u2 := Kp.mk (HB_u1.out.step hb); have HA_u2 := Kp.mk (HA_u1.out.step hb); have HC_u2 := Kp.mk (HC_u1.out.step hb); have kHA0_u2 := HA_u2.out.c0; have kHA1_u2 := HA_u2.out.c1; have kHA2_u2 := HA_u2.out.c2; have kHA3_u2 := HA_u2.out.c3; have kHC0_u2 := HC_u2.out.c0; have kHC1_u2 := HC_u2.out.c1; have kHC2_u2 := HC_u2.out.c2; have kHC3_u2 := HC_u2.out.c3; clear hb))
      have HB := HB_u2
      have HA := HA_u2
      have HC := HC_u2
      have kHA0 := HA.out.c0
      have kHA1 := HA.out.c1
      have kHA2 := HA.out.c2
      have kHA3 := HA.out.c3
      have kHC0 := HC.out.c0
      have kHC1 := HC.out.c1
      have kHC2 := HC.out.c2
      have kHC3 := HC.out.c3
      go_wp2_with fail
      go_ret
      exact ⟨rfl, HB.out.below⟩
     ·have e2 : (j.g == b.g) = false := by rw [beq_eq_false_iff_ne]; exact x2
      clear hj hjn p3 hm hv ha hb he x0 x1 x2
      go_enter Tryz.func27, Tryz.ntmps27
      go_upto_region 1 with fail
      generalize ((w.alloc (.cells #[.int .i8 a.f, .int .i64 a.d, .int .i8 a.g, .int .i64 a.e] 26)).alloc (.cells #[.int .i8 b.f, .int .i64 b.d, .int .i8 b.g, .int .i64 b.e] 26)) = w0 at *
      have kHA0 := HA.out.c0
      have kHA1 := HA.out.c1
      have kHA2 := HA.out.c2
      have kHA3 := HA.out.c3
      have kHC0 := HC.out.c0
      have kHC1 := HC.out.c1
      have kHC2 := HC.out.c2
      have kHC3 := HC.out.c3
      have hbl := (Below.refl w0.heap.size w0).drew
      have HBz := Kp.mk (HB.out.step hbl)
      have HAz := Kp.mk (HA.out.step hbl)
      have HCz := Kp.mk (HC.out.step hbl)
      have kHA0z := HAz.out.c0
      have kHA1z := HAz.out.c1
      have kHA2z := HAz.out.c2
      have kHA3z := HAz.out.c3
      have kHC0z := HCz.out.c0
      have kHC1z := HCz.out.c1
      have kHC2z := HCz.out.c2
      have kHC3z := HCz.out.c3
      clear hbl
      go_region_held3 (fun w' => w'.cell? ⟨w.heap.size, 0, none⟩ = some (.int .i8 a.f) ∧ w'.cell? ⟨w.heap.size, 1, none⟩ = some (.int .i64 a.d) ∧ w'.cell? ⟨w.heap.size, 2, none⟩ = some (.int .i8 a.g) ∧ w'.cell? ⟨w.heap.size, 3, none⟩ = some (.int .i64 a.e) ∧ w'.cell? ⟨w.heap.size + 1, 0, none⟩ = some (.int .i8 b.f) ∧ w'.cell? ⟨w.heap.size + 1, 1, none⟩ = some (.int .i64 b.d) ∧ w'.cell? ⟨w.heap.size + 1, 2, none⟩ = some (.int .i8 b.g) ∧ w'.cell? ⟨w.heap.size + 1, 3, none⟩ = some (.int .i64 b.e)) (first | (with_reducible exact ⟨kHA0, kHA1, kHA2, kHA3, kHC0, kHC1, kHC2, kHC3⟩) | (with_reducible exact ⟨kHA0z, kHA1z, kHA2z, kHA3z, kHC0z, kHC1z, kHC2z, kHC3z⟩) | (with_reducible exact ⟨kHA0_u1, kHA1_u1, kHA2_u1, kHA3_u1, kHC0_u1, kHC1_u1, kHC2_u1, kHC3_u1⟩) | (with_reducible exact ⟨kHA0_u2, kHA1_u2, kHA2_u2, kHA3_u2, kHC0_u2, kHC1_u2, kHC2_u2, kHC3_u2⟩) | go_keep)
       (first
        | (go_at_call 19; (with_reducible show Calls _ _ _ w0.drew _); (with_reducible refine (r1.out _).mono ?_); rintro e u1 ⟨rfl, hb⟩; have HB_u1 := Kp.mk (HBz.out.step hb); have HA_u1 := Kp.mk (HAz.out.step hb); have HC_u1 := Kp.mk (HCz.out.step hb); have kHA0_u1 := HA_u1.out.c0; have kHA1_u1 := HA_u1.out.c1; have kHA2_u1 := HA_u1.out.c2; have kHA3_u1 := HA_u1.out.c3; have kHC0_u1 := HC_u1.out.c0; have kHC1_u1 := HC_u1.out.c1; have kHC2_u1 := HC_u1.out.c2; have kHC3_u1 := HC_u1.out.c3; clear hb)
        | (go_at_call 24; (with_reducible show Calls _ _ _ u1 _); (with_reducible refine (r2.out _).mono ?_); rintro e u2 ⟨rfl, hb⟩; have HB_u2 := Kp.mk (HB_u1.out.step hb); have HA_u2 := Kp.mk (HA_u1.out.step hb); have HC_u2 := Kp.mk (HC_u1.out.step hb); have kHA0_u2 := HA_u2.out.c0; have kHA1_u2 := HA_u2.out.c1; have kHA2_u2 := HA_u2.out.c2; have kHA3_u2 := HA_u2.out.c3; have kHC0_u2 := HC_u2.out.c0; have kHC1_u2 := HC_u2.out.c1; have kHC2_u2 := HC_u2.out.c2; have kHC3_u2 := HC_u2.out.c3; clear hb))
      have HB := HB_u2
      have HA := HA_u2
      have HC := HC_u2
      have kHA0 := HA.out.c0
      have kHA1 := HA.out.c1
      have kHA2 := HA.out.c2
      have kHA3 := HA.out.c3
      have kHC0 := HC.out.c0
      have kHC1 := HC.out.c1
      have kHC2 := HC.out.c2
      have kHC3 := HC.out.c3
      go_wp2_with fail
      go_ret
      exact ⟨rfl, HB.out.below⟩
    ·have e1 : (j.d == b.d) = false := by rw [beq_eq_false_iff_ne]; exact x1
     clear hj hjn p3 hm hv ha hb he x0 x1
     go_enter Tryz.func27, Tryz.ntmps27
     go_upto_region 1 with fail
     generalize ((w.alloc (.cells #[.int .i8 a.f, .int .i64 a.d, .int .i8 a.g, .int .i64 a.e] 26)).alloc (.cells #[.int .i8 b.f, .int .i64 b.d, .int .i8 b.g, .int .i64 b.e] 26)) = w0 at *
     have kHA0 := HA.out.c0
     have kHA1 := HA.out.c1
     have kHA2 := HA.out.c2
     have kHA3 := HA.out.c3
     have kHC0 := HC.out.c0
     have kHC1 := HC.out.c1
     have kHC2 := HC.out.c2
     have kHC3 := HC.out.c3
     have hbl := (Below.refl w0.heap.size w0).drew
     have HBz := Kp.mk (HB.out.step hbl)
     have HAz := Kp.mk (HA.out.step hbl)
     have HCz := Kp.mk (HC.out.step hbl)
     have kHA0z := HAz.out.c0
     have kHA1z := HAz.out.c1
     have kHA2z := HAz.out.c2
     have kHA3z := HAz.out.c3
     have kHC0z := HCz.out.c0
     have kHC1z := HCz.out.c1
     have kHC2z := HCz.out.c2
     have kHC3z := HCz.out.c3
     clear hbl
     go_region_held3 (fun w' => w'.cell? ⟨w.heap.size, 0, none⟩ = some (.int .i8 a.f) ∧ w'.cell? ⟨w.heap.size, 1, none⟩ = some (.int .i64 a.d) ∧ w'.cell? ⟨w.heap.size, 2, none⟩ = some (.int .i8 a.g) ∧ w'.cell? ⟨w.heap.size, 3, none⟩ = some (.int .i64 a.e) ∧ w'.cell? ⟨w.heap.size + 1, 0, none⟩ = some (.int .i8 b.f) ∧ w'.cell? ⟨w.heap.size + 1, 1, none⟩ = some (.int .i64 b.d) ∧ w'.cell? ⟨w.heap.size + 1, 2, none⟩ = some (.int .i8 b.g) ∧ w'.cell? ⟨w.heap.size + 1, 3, none⟩ = some (.int .i64 b.e)) (first | (with_reducible exact ⟨kHA0, kHA1, kHA2, kHA3, kHC0, kHC1, kHC2, kHC3⟩) | (with_reducible exact ⟨kHA0z, kHA1z, kHA2z, kHA3z, kHC0z, kHC1z, kHC2z, kHC3z⟩) | (with_reducible exact ⟨kHA0_u1, kHA1_u1, kHA2_u1, kHA3_u1, kHC0_u1, kHC1_u1, kHC2_u1, kHC3_u1⟩) | (with_reducible exact ⟨kHA0_u2, kHA1_u2, kHA2_u2, kHA3_u2, kHC0_u2, kHC1_u2, kHC2_u2, kHC3_u2⟩) | go_keep)
      (first
       | (go_at_call 19; (with_reducible show Calls _ _ _ w0.drew _); (with_reducible refine (r1.out _).mono ?_); rintro e u1 ⟨rfl, hb⟩; have HB_u1 := Kp.mk (HBz.out.step hb); have HA_u1 := Kp.mk (HAz.out.step hb); have HC_u1 := Kp.mk (HCz.out.step hb); have kHA0_u1 := HA_u1.out.c0; have kHA1_u1 := HA_u1.out.c1; have kHA2_u1 := HA_u1.out.c2; have kHA3_u1 := HA_u1.out.c3; have kHC0_u1 := HC_u1.out.c0; have kHC1_u1 := HC_u1.out.c1; have kHC2_u1 := HC_u1.out.c2; have kHC3_u1 := HC_u1.out.c3; clear hb)
       | (go_at_call 24; (with_reducible show Calls _ _ _ u1 _); (with_reducible refine (r2.out _).mono ?_); rintro e u2 ⟨rfl, hb⟩; have HB_u2 := Kp.mk (HB_u1.out.step hb); have HA_u2 := Kp.mk (HA_u1.out.step hb); have HC_u2 := Kp.mk (HC_u1.out.step hb); have kHA0_u2 := HA_u2.out.c0; have kHA1_u2 := HA_u2.out.c1; have kHA2_u2 := HA_u2.out.c2; have kHA3_u2 := HA_u2.out.c3; have kHC0_u2 := HC_u2.out.c0; have kHC1_u2 := HC_u2.out.c1; have kHC2_u2 := HC_u2.out.c2; have kHC3_u2 := HC_u2.out.c3; clear hb))
     have HB := HB_u2
     have HA := HA_u2
     have HC := HC_u2
     have kHA0 := HA.out.c0
     have kHA1 := HA.out.c1
     have kHA2 := HA.out.c2
     have kHA3 := HA.out.c3
     have kHC0 := HC.out.c0
     have kHC1 := HC.out.c1
     have kHC2 := HC.out.c2
     have kHC3 := HC.out.c3
     go_wp2_with fail
     go_ret
     exact ⟨rfl, HB.out.below⟩
   ·have e0 : (j.f == b.f) = false := by rw [beq_eq_false_iff_ne]; exact x0
    clear hj hjn p3 hm hv ha hb he x0
    go_enter Tryz.func27, Tryz.ntmps27
    go_upto_region 1 with fail
    generalize ((w.alloc (.cells #[.int .i8 a.f, .int .i64 a.d, .int .i8 a.g, .int .i64 a.e] 26)).alloc (.cells #[.int .i8 b.f, .int .i64 b.d, .int .i8 b.g, .int .i64 b.e] 26)) = w0 at *
    have kHA0 := HA.out.c0
    have kHA1 := HA.out.c1
    have kHA2 := HA.out.c2
    have kHA3 := HA.out.c3
    have kHC0 := HC.out.c0
    have kHC1 := HC.out.c1
    have kHC2 := HC.out.c2
    have kHC3 := HC.out.c3
    have hbl := (Below.refl w0.heap.size w0).drew
    have HBz := Kp.mk (HB.out.step hbl)
    have HAz := Kp.mk (HA.out.step hbl)
    have HCz := Kp.mk (HC.out.step hbl)
    have kHA0z := HAz.out.c0
    have kHA1z := HAz.out.c1
    have kHA2z := HAz.out.c2
    have kHA3z := HAz.out.c3
    have kHC0z := HCz.out.c0
    have kHC1z := HCz.out.c1
    have kHC2z := HCz.out.c2
    have kHC3z := HCz.out.c3
    clear hbl
    go_region_held3 (fun w' => w'.cell? ⟨w.heap.size, 0, none⟩ = some (.int .i8 a.f) ∧ w'.cell? ⟨w.heap.size, 1, none⟩ = some (.int .i64 a.d) ∧ w'.cell? ⟨w.heap.size, 2, none⟩ = some (.int .i8 a.g) ∧ w'.cell? ⟨w.heap.size, 3, none⟩ = some (.int .i64 a.e) ∧ w'.cell? ⟨w.heap.size + 1, 0, none⟩ = some (.int .i8 b.f) ∧ w'.cell? ⟨w.heap.size + 1, 1, none⟩ = some (.int .i64 b.d) ∧ w'.cell? ⟨w.heap.size + 1, 2, none⟩ = some (.int .i8 b.g) ∧ w'.cell? ⟨w.heap.size + 1, 3, none⟩ = some (.int .i64 b.e)) (first | (with_reducible exact ⟨kHA0, kHA1, kHA2, kHA3, kHC0, kHC1, kHC2, kHC3⟩) | (with_reducible exact ⟨kHA0z, kHA1z, kHA2z, kHA3z, kHC0z, kHC1z, kHC2z, kHC3z⟩) | (with_reducible exact ⟨kHA0_u1, kHA1_u1, kHA2_u1, kHA3_u1, kHC0_u1, kHC1_u1, kHC2_u1, kHC3_u1⟩) | (with_reducible exact ⟨kHA0_u2, kHA1_u2, kHA2_u2, kHA3_u2, kHC0_u2, kHC1_u2, kHC2_u2, kHC3_u2⟩) | go_keep)
     (first
      | (go_at_call 19; (with_reducible show Calls _ _ _ w0.drew _); (with_reducible refine (r1.out _).mono ?_); rintro e u1 ⟨rfl, hb⟩; have HB_u1 := Kp.mk (HBz.out.step hb); have HA_u1 := Kp.mk (HAz.out.step hb); have HC_u1 := Kp.mk (HCz.out.step hb); have kHA0_u1 := HA_u1.out.c0; have kHA1_u1 := HA_u1.out.c1; have kHA2_u1 := HA_u1.out.c2; have kHA3_u1 := HA_u1.out.c3; have kHC0_u1 := HC_u1.out.c0; have kHC1_u1 := HC_u1.out.c1; have kHC2_u1 := HC_u1.out.c2; have kHC3_u1 := HC_u1.out.c3; clear hb)
      | (go_at_call 24; (with_reducible show Calls _ _ _ u1 _); (with_reducible refine (r2.out _).mono ?_); rintro e u2 ⟨rfl, hb⟩; have HB_u2 := Kp.mk (HB_u1.out.step hb); have HA_u2 := Kp.mk (HA_u1.out.step hb); have HC_u2 := Kp.mk (HC_u1.out.step hb); have kHA0_u2 := HA_u2.out.c0; have kHA1_u2 := HA_u2.out.c1; have kHA2_u2 := HA_u2.out.c2; have kHA3_u2 := HA_u2.out.c3; have kHC0_u2 := HC_u2.out.c0; have kHC1_u2 := HC_u2.out.c1; have kHC2_u2 := HC_u2.out.c2; have kHC3_u2 := HC_u2.out.c3; clear hb))
    have HB := HB_u2
    have HA := HA_u2
    have HC := HC_u2
    have kHA0 := HA.out.c0
    have kHA1 := HA.out.c1
    have kHA2 := HA.out.c2
    have kHA3 := HA.out.c3
    have kHC0 := HC.out.c0
    have kHC1 := HC.out.c1
    have kHC2 := HC.out.c2
    have kHC3 := HC.out.c3
    go_wp2_with fail
    go_ret
    exact ⟨rfl, HB.out.below⟩
 ·have r1 := Kp.mk (fun w => refOver_is ha hb (decide_eq_false hm) w)
  obtain rfl : false = v := by rw [← hv, decide_eq_false_iff_not.2]; have := hb.pos.le; omega
  clear hj p3 hm hv ha hb
  go_enter Tryz.func27, Tryz.ntmps27
  go_upto_region 1 with fail
  generalize ((w.alloc (.cells #[.int .i8 a.f, .int .i64 a.d, .int .i8 a.g, .int .i64 a.e] 26)).alloc (.cells #[.int .i8 b.f, .int .i64 b.d, .int .i8 b.g, .int .i64 b.e] 26)) = w0 at *
  have kHA0 := HA.out.c0
  have kHA1 := HA.out.c1
  have kHA2 := HA.out.c2
  have kHA3 := HA.out.c3
  have kHC0 := HC.out.c0
  have kHC1 := HC.out.c1
  have kHC2 := HC.out.c2
  have kHC3 := HC.out.c3
  have hbl := (Below.refl w0.heap.size w0).drew
  have HBz := Kp.mk (HB.out.step hbl)
  have HAz := Kp.mk (HA.out.step hbl)
  have HCz := Kp.mk (HC.out.step hbl)
  have kHA0z := HAz.out.c0
  have kHA1z := HAz.out.c1
  have kHA2z := HAz.out.c2
  have kHA3z := HAz.out.c3
  have kHC0z := HCz.out.c0
  have kHC1z := HCz.out.c1
  have kHC2z := HCz.out.c2
  have kHC3z := HCz.out.c3
  clear hbl
  clear kHA0 kHA1 kHA2 kHA3 kHC0 kHC1 kHC2 kHC3
  refine wp_region_held_drew (S := fun w' => w'.cell? ⟨w.heap.size, 0, none⟩ = some (.int .i8 a.f) ∧ w'.cell? ⟨w.heap.size, 1, none⟩ = some (.int .i64 a.d) ∧ w'.cell? ⟨w.heap.size, 2, none⟩ = some (.int .i8 a.g) ∧ w'.cell? ⟨w.heap.size, 3, none⟩ = some (.int .i64 a.e) ∧ w'.cell? ⟨w.heap.size + 1, 0, none⟩ = some (.int .i8 b.f) ∧ w'.cell? ⟨w.heap.size + 1, 1, none⟩ = some (.int .i64 b.d) ∧ w'.cell? ⟨w.heap.size + 1, 2, none⟩ = some (.int .i8 b.g) ∧ w'.cell? ⟨w.heap.size + 1, 3, none⟩ = some (.int .i64 b.e)) (by kernel_rfl) ?_ (fun hHeld => ?_)
  ·with_reducible exact ⟨kHA0z, kHA1z, kHA2z, kHA3z, kHC0z, kHC1z, kHC2z, kHC3z⟩
  refine tk 0 ?_ rfl hHeld ?_ ?_
  rotate_left
  ·(intro w hSw; (try dsimp only at hSw); go_simp; try with_reducible rfl)
  try simp only [pt]
  refine tk 1 ?_ rfl hHeld ?_ ?_
  rotate_left
  ·(intro w hSw; (try dsimp only at hSw); go_simp; try with_reducible rfl)
  try simp only [pt]
  refine rd [2] ?_
  refine AllReadyH.cons (dropAt rfl) (fun K hK => ?_) AllReadyH.nil
  go_simp
  go_at_call 19
  with_reducible refine (r1.out _).mono ?_
  rintro e u1 ⟨rfl, hb⟩
  have HB_u1 := Kp.mk (HBz.out.step hb)
  have HA_u1 := Kp.mk (HAz.out.step hb)
  have HC_u1 := Kp.mk (HCz.out.step hb)
  have kHA0_u1 := HA_u1.out.c0
  have kHA1_u1 := HA_u1.out.c1
  have kHA2_u1 := HA_u1.out.c2
  have kHA3_u1 := HA_u1.out.c3
  have kHC0_u1 := HC_u1.out.c0
  have kHC1_u1 := HC_u1.out.c1
  have kHC2_u1 := HC_u1.out.c2
  have kHC3_u1 := HC_u1.out.c3
  clear hHeld kHA0z kHA1z kHA2z kHA3z kHC0z kHC1z kHC2z kHC3z HBz HAz HCz hb
  go_wp2_with fail
  refine hK.out _ _ ?_ (fun hHeld => ?_)
  ·with_reducible exact ⟨kHA0_u1, kHA1_u1, kHA2_u1, kHA3_u1, kHC0_u1, kHC1_u1, kHC2_u1, kHC3_u1⟩
  clear hK K
  try simp only [pt]
  refine tk 3 ?_ rfl hHeld ?_ ?_
  rotate_left
  ·(intro w hSw; (try dsimp only at hSw); go_simp; try with_reducible rfl)
  try simp only [pt]
  refine takeOut (i := 4) rfl (by kernel_rfl) (by kernel_rfl) (by kernel_rfl) (fun _ _ _ h => h) (by rfl) hHeld ?_
  try simp only [pt]
  refine takeOut (i := 5) rfl (by kernel_rfl) (by kernel_rfl) (by kernel_rfl) (fun _ _ _ h => h) (by rfl) hHeld ?_
  try simp only [pt]
  refine takeOut (i := 6) rfl (by kernel_rfl) (by kernel_rfl) (by kernel_rfl) (fun _ _ _ h => h) (by rfl) hHeld ?_
  try simp only [pt]
  refine takeOut (i := 7) rfl (by kernel_rfl) (by kernel_rfl) (by kernel_rfl) (fun _ _ _ h => h) (by rfl) hHeld ?_
  try simp only [pt]
  refine takeOut (i := 8) rfl (by kernel_rfl) (by kernel_rfl) (by kernel_rfl) (fun _ _ _ h => h) (by rfl) hHeld ?_
  try simp only [pt]
  refine tk 9 ?_ rfl hHeld ?_ ?_
  rotate_left
  ·(intro w hSw; (try dsimp only at hSw); go_simp; try with_reducible rfl)
  try simp only [pt]
  refine tk 10 ?_ rfl hHeld ?_ ?_
  rotate_left
  ·(intro w hSw; (try dsimp only at hSw); go_simp; try with_reducible rfl)
  try simp only [pt]
  refine wpAnyH_done (by kernel_rfl) ?_ _
  have HB := HB_u1
  have HA := HA_u1
  have HC := HC_u1
  have kHA0 := HA.out.c0
  have kHA1 := HA.out.c1
  have kHA2 := HA.out.c2
  have kHA3 := HA.out.c3
  have kHC0 := HC.out.c0
  have kHC1 := HC.out.c1
  have kHC2 := HC.out.c2
  have kHC3 := HC.out.c3
  go_wp2_with fail
  go_ret
  exact ⟨rfl, HB.out.below⟩
end
section -- RsRefW
open Go.RowKit
set_option maxRecDepth 100000

variable {w W W' : World} {a b : Option Addr} {l m : List Rn}
theorem ok_at {r : Rn} {p : Nat} (h : RsCan l) (hr : l[p]? = some r) : r.Ok := h.ok r (List.mem_of_getElem? hr)
set_option maxHeartbeats 8000000 in
theorem refSIn_is {c : Bool} {p q : Nat} (hl : ∀ r, r ∈ l → r.In) (hm : ∀ r, r ∈ m → r.In) (nl : l.length ≤ maxLen) (nm : m.length ≤ maxLen) (al : Lr w a l w) (am : Lr w b m w) (hb0 : bothRs l m = 0) (hc : inRs l m = c) :
 Calls Tryz.prog 57 #[.slice a l.length p, .slice b m.length q] w fun x w' => x = .returned (.tuple #[.bool c, .int .i64 0]) ∧ Below w.heap.size w w' := by
 have HL := Kp.mk al
 have HM := Kp.mk am
 have nl2 : l.length ≤ 9223372036854775807 := by unfold maxLen at nl; omega
 have nm2 : m.length ≤ 9223372036854775807 := by unfold maxLen at nm; omega
 have r1 := Kp.mk (fun (x : World) (h : Below w.heap.size w x) => refSBoth_is (p := p) (q := q) hl hm nl nm (al.step h).at' (am.step h).at' hb0)
 have e1 : chkRs l = 0 := by
  unfold bothRs at hb0
  by_cases h : chkRs l = 0
  ·exact h
  ·rw [if_neg h] at hb0; exact hb0
 have CL := Kp.mk (((chkRs_zero hl).1 e1).2)
 have CM := Kp.mk (((chkRs_zero hm).1 (by unfold bothRs at hb0; rw [if_pos e1] at hb0; exact hb0)).2)
 clear hb0 e1 hl hm nl nm al am
 unfold inRs at hc
 obtain ⟨n, hnn⟩ : ∃ n, l.length = n := ⟨_, rfl⟩
 obtain ⟨k, hkk⟩ : ∃ k, m.length = k := ⟨_, rfl⟩
 rw [hnn, hkk] at r1
 rw [hnn] at nl2 ⊢
 rw [hkk] at nm2 ⊢
 go_enter Tryz.func57, Tryz.ntmps57
 go_wp2_with fail
 refine (r1.out _ HL.out.below).mono ?_
 rintro e v1 ⟨rfl, hb⟩
 have HL := Kp.mk (HL.out.step hb)
 have HM := Kp.mk (HM.out.step hb)
 clear hb r1
 go_wp2_with fail
 go_loopw [6, 7, 8] (fun i _ _ wr => ∃ p : Nat, p ≤ n ∧ i = .int .i64 (p : Int) ∧ ((l.drop p).all fun r => m.any fun s => inN r s) = c ∧ Kp (Lr w a l wr) ∧ Kp (Lr w b m wr)) (fun i _ _ _ => n - (intOf i).toNat)
 case atStart => exact ⟨0, by omega, rfl, hc, HL, HM⟩
 case round =>
  obtain ⟨p, hp, rfl, hq, HL, HM⟩ := hrel
  by_cases h1 : p < n
  ·have t1 : decide ((p : Int) < (n : Int)) = true := decide_eq_true (by omega)
   have b1 : (p : Int) < (n : Int) := by omega
   obtain ⟨r, hr⟩ : ∃ r, l[p]? = some r := ⟨l[p]'(by omega), List.getElem?_eq_getElem (by omega)⟩
   obtain ⟨g, s, rfl⟩ := HL.out.place hr
   rw [drop_at hr, List.all_cons] at hq
   have OR := Kp.mk (ok_at CL.out hr)
   have wp1 : IntKind.i64.wrap ((p : Int) + 1) = (p : Int) + 1 := IntWalk.i64_in _ (by omega)
   obtain ⟨t, ht⟩ : ∃ t, (m.any fun s => inN r s) = t := ⟨_, rfl⟩
   rw [ht] at hq
   go_wp2_with fail
   clear t1
   go_loopw [7, 8] (fun v i wr => ∃ j : Nat, ∃ u : Bool, j ≤ k ∧ i = .int .i64 (j : Int) ∧ v = .bool u ∧ (u || (m.drop j).any fun s => inN r s) = t ∧ Kp (Lr w (some ⟨g, s, none⟩) l wr) ∧ Kp (Lr w b m wr)) (fun _ i _ => k - (intOf i).toNat)
   case atStart => exact ⟨0, false, by omega, rfl, rfl, by rw [Bool.false_or]; exact ht, HL, HM⟩
   case round =>
    obtain ⟨j, u, hj, rfl, rfl, hu, HL, HM⟩ := hrel
    by_cases h2 : j < k
    ·have t2 : decide ((j : Int) < (k : Int)) = true := decide_eq_true (by omega)
     have b2 : (j : Int) < (k : Int) := by omega
     obtain ⟨x, hx⟩ : ∃ x, m[j]? = some x := ⟨m[j]'(by omega), List.getElem?_eq_getElem (by omega)⟩
     obtain ⟨g2, s2, rfl⟩ := HM.out.place hx
     rw [drop_at hx, List.any_cons] at hu
     have OX := Kp.mk (ok_at CM.out hx)
     have wj1 : IntKind.i64.wrap ((j : Int) + 1) = (j : Int) + 1 := IntWalk.i64_in _ (by omega)
     cases u with
     | true =>
      go_upto_region 10 with fail
      have hbl := (Below.refl wr.heap.size wr).drew
      have HLz := Kp.mk (HL.out.step hbl)
      have HMz := Kp.mk (HM.out.step hbl)
      obtain ⟨k0z, k1z, k2z, k3z⟩ := HLz.out.cells hr
      obtain ⟨k4z, k5z, k6z, k7z⟩ := HMz.out.cells hx
      clear hbl
      refine wp_region_held_drew (S := fun w' => w'.cell? ⟨g, s + p * 4, none⟩ = some (.int .i8 r.f) ∧ w'.cell? ⟨g, s + p * 4 + 1, none⟩ = some (.int .i64 r.d) ∧ w'.cell? ⟨g, s + p * 4 + 2, none⟩ = some (.int .i8 r.g) ∧ w'.cell? ⟨g, s + p * 4 + 3, none⟩ = some (.int .i64 r.e) ∧ w'.cell? ⟨g2, s2 + j * 4, none⟩ = some (.int .i8 x.f) ∧ w'.cell? ⟨g2, s2 + j * 4 + 1, none⟩ = some (.int .i64 x.d) ∧ w'.cell? ⟨g2, s2 + j * 4 + 2, none⟩ = some (.int .i8 x.g) ∧ w'.cell? ⟨g2, s2 + j * 4 + 3, none⟩ = some (.int .i64 x.e)) (by kernel_rfl) ?_ (fun hHeld => ?_)
      ·with_reducible exact ⟨k0z, k1z, k2z, k3z, k4z, k5z, k6z, k7z⟩
      refine tk 0 ?_ rfl hHeld ?_ ?_
      rotate_left
      ·(intro w hSw; (try dsimp only at hSw); go_simp; try with_reducible rfl)
      try simp only [pt]
      refine tk 1 ?_ rfl hHeld ?_ ?_
      rotate_left
      ·(intro w hSw; (try dsimp only at hSw); go_simp; try with_reducible rfl)
      try simp only [pt]
      refine takeOut (i := 2) rfl (by kernel_rfl) (by kernel_rfl) (by kernel_rfl) (fun _ _ _ h => h) (by rfl) hHeld ?_
      try simp only [pt]
      refine takeOut (i := 3) rfl (by kernel_rfl) (by kernel_rfl) (by kernel_rfl) (fun _ _ _ h => h) (by rfl) hHeld ?_
      try simp only [pt]
      refine takeOut (i := 4) rfl (by kernel_rfl) (by kernel_rfl) (by kernel_rfl) (fun _ _ _ h => h) (by rfl) hHeld ?_
      try simp only [pt]
      refine takeOut (i := 5) rfl (by kernel_rfl) (by kernel_rfl) (by kernel_rfl) (fun _ _ _ h => h) (by rfl) hHeld ?_
      try simp only [pt]
      refine takeOut (i := 6) rfl (by kernel_rfl) (by kernel_rfl) (by kernel_rfl) (fun _ _ _ h => h) (by rfl) hHeld ?_
      try simp only [pt]
      refine takeOut (i := 7) rfl (by kernel_rfl) (by kernel_rfl) (by kernel_rfl) (fun _ _ _ h => h) (by rfl) hHeld ?_
      try simp only [pt]
      refine takeOut (i := 8) rfl (by kernel_rfl) (by kernel_rfl) (by kernel_rfl) (fun _ _ _ h => h) (by rfl) hHeld ?_
      try simp only [pt]
      refine takeOut (i := 9) rfl (by kernel_rfl) (by kernel_rfl) (by kernel_rfl) (fun _ _ _ h => h) (by rfl) hHeld ?_
      try simp only [pt]
      refine takeOut (i := 10) rfl (by kernel_rfl) (by kernel_rfl) (by kernel_rfl) (fun _ _ _ h => h) (by rfl) hHeld ?_
      try simp only [pt]
      refine tk 11 ?_ rfl hHeld ?_ ?_
      rotate_left
      ·(intro w hSw; (try dsimp only at hSw); go_simp; try with_reducible rfl)
      try simp only [pt]
      refine tk 12 ?_ rfl hHeld ?_ ?_
      rotate_left
      ·(intro w hSw; (try dsimp only at hSw); go_simp; try with_reducible rfl)
      try simp only [pt]
      refine wpAnyH_done (by kernel_rfl) ?_ _
      clear hHeld
      have HL := HLz
      have HM := HMz
      clear k0z k1z k2z k3z k4z k5z k6z k7z
      go_wp2_with fail
      go_roundw
      case rel => exact ⟨j + 1, true, by omega, by go_num, rfl, hu, HL, HM⟩
      case measure => simp [intOf]; omega
     | false =>
      obtain ⟨z, hz⟩ : ∃ z, decide (x.lo ≤ r.lo ∧ r.hi ≤ x.hi) = z := ⟨_, rfl⟩
      have e : inN r x = z := by
       rw [← hz]; unfold inN; rw [decide_eq_decide]
       exact ⟨fun h => h.2.2, fun h => ⟨(chkR_zero OR.out.toIn).2 OR.out, (chkR_zero OX.out.toIn).2 OX.out, h⟩⟩
      have ri := Kp.mk (fun w => refIn_is OR.out OX.out hz w)
      rw [e, Bool.false_or] at hu
      clear hz e
      go_upto_region 10 with fail
      have hbl := (Below.refl wr.heap.size wr).drew
      have HLz := Kp.mk (HL.out.step hbl)
      have HMz := Kp.mk (HM.out.step hbl)
      obtain ⟨k0z, k1z, k2z, k3z⟩ := HLz.out.cells hr
      obtain ⟨k4z, k5z, k6z, k7z⟩ := HMz.out.cells hx
      clear hbl
      refine wp_region_held_drew (S := fun w' => w'.cell? ⟨g, s + p * 4, none⟩ = some (.int .i8 r.f) ∧ w'.cell? ⟨g, s + p * 4 + 1, none⟩ = some (.int .i64 r.d) ∧ w'.cell? ⟨g, s + p * 4 + 2, none⟩ = some (.int .i8 r.g) ∧ w'.cell? ⟨g, s + p * 4 + 3, none⟩ = some (.int .i64 r.e) ∧ w'.cell? ⟨g2, s2 + j * 4, none⟩ = some (.int .i8 x.f) ∧ w'.cell? ⟨g2, s2 + j * 4 + 1, none⟩ = some (.int .i64 x.d) ∧ w'.cell? ⟨g2, s2 + j * 4 + 2, none⟩ = some (.int .i8 x.g) ∧ w'.cell? ⟨g2, s2 + j * 4 + 3, none⟩ = some (.int .i64 x.e)) (by kernel_rfl) ?_ (fun hHeld => ?_)
      ·with_reducible exact ⟨k0z, k1z, k2z, k3z, k4z, k5z, k6z, k7z⟩
      refine tk 0 ?_ rfl hHeld ?_ ?_
      rotate_left
      ·(intro w hSw; (try dsimp only at hSw); go_simp; try with_reducible rfl)
      try simp only [pt]
      refine tk 1 ?_ rfl hHeld ?_ ?_
      rotate_left
      ·(intro w hSw; (try dsimp only at hSw); go_simp; try with_reducible rfl)
      try simp only [pt]
      refine tk 2 ?_ rfl hHeld ?_ ?_
      rotate_left
      ·(intro w hSw; (try dsimp only at hSw); go_simp; try with_reducible rfl)
      try simp only [pt]
      refine tk 3 ?_ rfl hHeld ?_ ?_
      rotate_left
      ·(intro w hSw; (try dsimp only at hSw); go_simp; try with_reducible rfl)
      try simp only [pt]
      refine tk 4 ?_ rfl hHeld ?_ ?_
      rotate_left
      ·(intro w hSw; (try dsimp only at hSw); go_simp; try with_reducible rfl)
      try simp only [pt]
      refine tk 5 ?_ rfl hHeld ?_ ?_
      rotate_left
      ·(intro w hSw; (try dsimp only at hSw); go_simp; try with_reducible rfl)
      try simp only [pt]
      refine tk 6 ?_ rfl hHeld ?_ ?_
      rotate_left
      ·(intro w hSw; (try dsimp only at hSw); go_simp; try with_reducible rfl)
      try simp only [pt]
      refine tk 7 ?_ rfl hHeld ?_ ?_
      rotate_left
      ·(intro w hSw; (try dsimp only at hSw); go_simp; try with_reducible rfl)
      try simp only [pt]
      refine tk 8 ?_ rfl hHeld ?_ ?_
      rotate_left
      ·(intro w hSw; (try dsimp only at hSw); go_simp; try with_reducible rfl)
      try simp only [pt]
      refine tk 9 ?_ rfl hHeld ?_ ?_
      rotate_left
      ·(intro w hSw; (try dsimp only at hSw); go_simp; try with_reducible rfl)
      try simp only [pt]
      refine rd [10] ?_
      refine AllReadyH.cons (dropAt rfl) (fun K hK => ?_) AllReadyH.nil
      go_simp
      go_at_call 27
      with_reducible refine (ri.out _).mono ?_
      rintro e y1 ⟨rfl, hb⟩
      have HL_y1 := Kp.mk (HLz.out.step hb)
      have HM_y1 := Kp.mk (HMz.out.step hb)
      obtain ⟨k0_y1, k1_y1, k2_y1, k3_y1⟩ := HL_y1.out.cells hr
      obtain ⟨k4_y1, k5_y1, k6_y1, k7_y1⟩ := HM_y1.out.cells hx
      clear hHeld k0z k1z k2z k3z k4z k5z k6z k7z HLz HMz hb
      go_wp2_with fail
      refine hK.out _ _ ?_ (fun hHeld => ?_)
      ·with_reducible exact ⟨k0_y1, k1_y1, k2_y1, k3_y1, k4_y1, k5_y1, k6_y1, k7_y1⟩
      clear hK K
      try simp only [pt]
      refine tk 11 ?_ rfl hHeld ?_ ?_
      rotate_left
      ·(intro w hSw; (try dsimp only at hSw); go_simp; try with_reducible rfl)
      try simp only [pt]
      refine tk 12 ?_ rfl hHeld ?_ ?_
      rotate_left
      ·(intro w hSw; (try dsimp only at hSw); go_simp; try with_reducible rfl)
      try simp only [pt]
      refine wpAnyH_done (by kernel_rfl) ?_ _
      clear hHeld
      have HL := HL_y1
      have HM := HM_y1
      clear k0_y1 k1_y1 k2_y1 k3_y1 k4_y1 k5_y1 k6_y1 k7_y1
      go_wp2_with fail
      go_roundw
      case rel => exact ⟨j + 1, z, by omega, by go_num, rfl, hu, HL, HM⟩
      case measure => simp [intOf]; omega
    ·obtain rfl : j = k := by omega
     rw [List.drop_of_length_le (by omega)] at hu
     obtain rfl : u = t := by rw [← hu]; simp
     cases u with
     | true =>
      rw [Bool.true_and] at hq
      go_wp2_with fail
      go_roundw
      case rel => exact ⟨p + 1, by omega, by go_num, hq, HL, HM⟩
      case measure => simp [intOf]; omega
     | false =>
      obtain rfl : false = c := hq
      go_wp2_with fail
      go_ret2
      exact ⟨rfl, HL.out.below⟩
  ·obtain rfl : p = n := by omega
   rw [List.drop_of_length_le (by omega)] at hq
   obtain rfl : true = c := hq
   go_wp2_with fail
   go_ret2
   exact ⟨rfl, HL.out.below⟩
end
section -- RsLen
open Go.RowKit
set_option maxRecDepth 100000

variable {l m u : List Rn}
variable {I : World → Prop} {w : World} {a b : Option Addr} {p q : Nat}
/-- a set that the reference hands back -/
def SetRf (S : Int → Prop) (w : World) (x : Ending) (w' : World) : Prop :=
 (∃ (m : List Rn) (b : Option Addr) (p : Nat), IsRs m S ∧ x = .returned (.tuple #[.slice b m.length p, .int .i64 0]) ∧ Lr w b m w') ∧ Below w.heap.size w w'
theorem short_rf {S : Int → Prop} {N : Nat} (hS : ∀ u, IsRs u S → u.length ≤ 4096) {x : Ending} {w' : World} (h : ShortOf S N w x w' ∧ Below w.heap.size w w') : SetRf S w x w' := by
 obtain ⟨⟨m, h1, _, ⟨_, b, p, h3, h4⟩ | ⟨h2, _⟩⟩, hb⟩ := h
 ·exact ⟨⟨m, b, p, h1, h3, h4⟩, hb⟩
 ·have := hS m h1; omega
theorem refU_s (hl : InL l) (hm : InL m) (nl : l.length ≤ maxLen) (nm : m.length ≤ maxLen) (al : Lr w a l w) (am : Lr w b m w) (hc : bothRs l m = 0) (hn : l.length + m.length ≤ 4096) :
 Calls Tryz.prog 54 #[.slice a l.length p, .slice b m.length q] w (SetRf (fun x => memR l x ∨ memR m x) w) :=
 (refSUnion_is hl hm nl nm al am hc).mono fun _ _ h => short_rf (fun _ hu => Nat.le_trans (uni_len hu) hn) h
theorem refC_s (hl : InL l) (hm : InL m) (nl : l.length ≤ maxLen) (nm : m.length ≤ maxLen) (al : Lr w a l w) (am : Lr w b m w) (hc : bothRs l m = 0) (hn : l.length + m.length ≤ 4096) :
 Calls Tryz.prog 55 #[.slice a l.length p, .slice b m.length q] w (SetRf (fun x => memR l x ∧ memR m x) w) :=
 (refSCom_is hl hm nl nm al am hc).mono fun _ _ h => short_rf (fun _ hu => Nat.le_trans (com_len hu) hn) h
theorem refW_s (hl : InL l) (hm : InL m) (nl : l.length ≤ maxLen) (nm : m.length ≤ maxLen) (al : Lr w a l w) (am : Lr w b m w) (hc : bothRs l m = 0) (hn : l.length + m.length ≤ 4096) :
 Calls Tryz.prog 56 #[.slice a l.length p, .slice b m.length q] w (SetRf (fun x => memR l x ∧ leftM m x) w) :=
 (refSWo_is hl hm nl nm al am hc).mono fun _ _ h => short_rf (fun _ hu => Nat.le_trans (wo_len hu) hn) h
end
section -- RsHas
open Go.RowKit
set_option maxRecDepth 100000

variable {l m u : List Rn} {d : Int}
theorem in_uni (hl : InL l) (hm : InL m) (cl : RsCan l) (cm : RsCan m) (h : IsRs u (fun x => memR l x ∨ memR m x)) : decide (u = m) = inRs l m := by
 rw [Bool.eq_iff_iff, decide_eq_true_iff, in_sub hl hm cl cm]
 constructor
 ·rintro rfl x hx
  exact (h.mem x).2 (.inl hx)
 ·intro hs
  exact rsc_uniq h.can cm (fun x => (h.mem x).trans ⟨fun q => q.elim (hs x) id, .inr⟩)
theorem isrs_swap {S T : Int → Prop} (h : IsRs u (fun x => S x ∨ T x)) : IsRs u (fun x => T x ∨ S x) := h.congr (fun _ => or_comm)
theorem isrs_swap' {S T : Int → Prop} (h : IsRs u (fun x => S x ∧ T x)) : IsRs u (fun x => T x ∧ S x) := h.congr (fun _ => and_comm)
theorem both_swap {l m : List Rn} (h : bothRs l m = 0) : bothRs m l = 0 := by
 unfold bothRs at h ⊢
 by_cases h1 : chkRs l = 0
 ·rw [if_pos h1] at h; rw [if_pos h]; exact h1
 ·rw [if_neg h1] at h; exact absurd h h1
end
section -- RsPairs
open Go.RowKit
set_option maxRecDepth 100000

variable {w : World} {a b : Option Addr} {l m : List Rn} {cap cap2 : Nat} {d : Int}
set_option maxHeartbeats 4000000 in
theorem lawPairs_long1 {I : World → Prop} (C : SetFns I) (w : World) (hI : I w) (h : 20 < l.length) (nl : l.length ≤ maxLen) (nm : m.length ≤ maxLen) :
 Calls Tryz.prog 9 #[.slice a l.length cap, .slice b m.length cap2, .int .i64 d] w fun x w' => x = .returned (.bool true) ∧ Below w.heap.size w w' := by
 have rl := Kp.mk (C.lives w hI)
 have t0 : decide ((20 : Int) < (l.length : Int)) = true := decide_eq_true (by omega)
 have t1 : (20 : Int) < (l.length : Int) := by omega
 clear h
 have hm2 : l.length ≤ 9223372036854775807 := by unfold maxLen at nl; omega
 have hm3 : m.length ≤ 9223372036854775807 := by unfold maxLen at nm; omega
 clear C hI nl nm
 generalize l.length = n at *
 generalize m.length = k at *
 go_enter Tryz.func9, Tryz.ntmps9
 go_wp2_with fail
 refine rl.out.mono ?_
 rintro e v1 ⟨rfl, hb⟩
 have HB := Kp.mk hb
 clear hb rl
 go_wp2_with fail
 go_ret
 exact ⟨rfl, HB.out⟩
set_option maxHeartbeats 4000000 in
theorem lawPairs_long2 {I : World → Prop} (C : SetFns I) (w : World) (hI : I w) (h0 : ¬ 20 < l.length) (h : 20 < m.length) (nl : l.length ≤ maxLen) (nm : m.length ≤ maxLen) :
 Calls Tryz.prog 9 #[.slice a l.length cap, .slice b m.length cap2, .int .i64 d] w fun x w' => x = .returned (.bool true) ∧ Below w.heap.size w w' := by
 have rl := Kp.mk (C.lives w hI)
 have t0 : decide ((20 : Int) < (l.length : Int)) = false := decide_eq_false (by omega)
 have t1 : ¬ (20 : Int) < (l.length : Int) := by omega
 have t2 : decide ((20 : Int) < (m.length : Int)) = true := decide_eq_true (by omega)
 have t3 : (20 : Int) < (m.length : Int) := by omega
 clear h0 h
 have hm2 : l.length ≤ 9223372036854775807 := by unfold maxLen at nl; omega
 have hm3 : m.length ≤ 9223372036854775807 := by unfold maxLen at nm; omega
 clear C hI nl nm
 generalize l.length = n at *
 generalize m.length = k at *
 go_enter Tryz.func9, Tryz.ntmps9
 go_wp2_with fail
 refine rl.out.mono ?_
 rintro e v1 ⟨rfl, hb⟩
 have HB := Kp.mk hb
 clear hb rl
 go_wp2_with fail
 go_ret
 exact ⟨rfl, HB.out⟩
set_option maxHeartbeats 8000000 in
theorem lawPairs_bad {I : World → Prop} (C : SetFns I) (w : World) (hI : I w) {c : Int} (A : ArgL w a l cap) (B : ArgL w b m cap2) (h1 : l.length ≤ 20) (h2 : m.length ≤ 20) (hc : bothRs l m = c) (h0 : ¬ c = 0) :
 Calls Tryz.prog 9 #[.slice a l.length cap, .slice b m.length cap2, .int .i64 d] w fun x w' => x = .returned (.bool true) ∧ Below w.heap.size w w' := by
 have HI := Kp.mk (fun v (hv : Below w.heap.size w v) => C.keep hI hv)
 have HL := Kp.mk A.lr
 have HM := Kp.mk B.lr
 have NL : l.length ≤ maxLen := A.len
 have NM : m.length ≤ maxLen := B.len
 have rl := Kp.mk (fun v (hv : Below w.heap.size w v) => C.lives v (HI.out v hv))
 obtain ⟨sm, hsm⟩ : ∃ s, decide (l = m) = s := ⟨_, rfl⟩
 have rsp := Kp.mk (fun v (hv : Below w.heap.size w v) (p : Lr v a l v) (q : Lr v b m v) => C.same (p := cap) (q := cap2) v (HI.out v hv) NL NM p q hsm)
 have rsr := Kp.mk (fun v (p : Lr v a l v) (q : Lr v b m v) => same_any (p := cap) (q := cap2) NL hsm p q)
 have ru := Kp.mk (fun v (hv : Below w.heap.size w v) (p : Lr v a l v) (q : Lr v b m v) => C.uni_bad (p := cap) (q := cap2) v (HI.out v hv) A.inl B.inl NL NM p q hc h0)
 have rc := Kp.mk (fun v (hv : Below w.heap.size w v) (p : Lr v a l v) (q : Lr v b m v) => C.com_bad (p := cap) (q := cap2) v (HI.out v hv) A.inl B.inl NL NM p q hc h0)
 have rw := Kp.mk (fun v (hv : Below w.heap.size w v) (p : Lr v a l v) (q : Lr v b m v) => C.wo_bad (p := cap) (q := cap2) v (HI.out v hv) A.inl B.inl NL NM p q hc h0)
 have ri := Kp.mk (fun v (hv : Below w.heap.size w v) (p : Lr v a l v) (q : Lr v b m v) => C.ins_bad (p := cap) (q := cap2) v (HI.out v hv) A.inl B.inl NL NM p q hc h0)
 have qu := Kp.mk (fun v (p : Lr v a l v) (q : Lr v b m v) => refSUnion_bad (p := cap) (q := cap2) A.inl B.inl NL NM p q hc h0)
 have qc := Kp.mk (fun v (p : Lr v a l v) (q : Lr v b m v) => refSCom_bad (p := cap) (q := cap2) A.inl B.inl NL NM p q hc h0)
 have qw := Kp.mk (fun v (p : Lr v a l v) (q : Lr v b m v) => refSWo_bad (p := cap) (q := cap2) A.inl B.inl NL NM p q hc h0)
 have qi := Kp.mk (fun v (p : Lr v a l v) (q : Lr v b m v) => refSIn_bad (p := cap) (q := cap2) A.inl B.inl NL NM p q hc h0)
 have rg := Kp.mk (fun (v : World) (x y : Option Addr) (i j q : Nat) => gives_no (a := x) (b := y) h0 (n := i) (p := j) (q := q) v)
 have t5 : (c != 0) = true := by rw [bne_iff_ne]; exact h0
 have t0 : decide ((20 : Int) < (l.length : Int)) = false := decide_eq_false (by omega)
 have t2 : decide ((20 : Int) < (m.length : Int)) = false := decide_eq_false (by omega)
 clear C hI A B hc h0 hsm
 generalize l.length = n at *
 generalize m.length = k at *
 go_enter Tryz.func9, Tryz.ntmps9
 go_wp2_with fail
 refine (ru.out _ HL.out.below HL.out.now HM.out.now).mono ?_
 rintro e v1 ⟨⟨b0, p0, rfl⟩, hb⟩
 have HL := Kp.mk (HL.out.step hb)
 have HM := Kp.mk (HM.out.step hb)
 clear hb
 go_wp2_with fail
 refine (rc.out _ HL.out.below HL.out.now HM.out.now).mono ?_
 rintro e v2 ⟨⟨b1, p1, rfl⟩, hb⟩
 have HL := Kp.mk (HL.out.step hb)
 have HM := Kp.mk (HM.out.step hb)
 clear hb
 go_wp2_with fail
 refine (rw.out _ HL.out.below HL.out.now HM.out.now).mono ?_
 rintro e v3 ⟨⟨b2, p2, rfl⟩, hb⟩
 have HL := Kp.mk (HL.out.step hb)
 have HM := Kp.mk (HM.out.step hb)
 clear hb
 go_wp2_with fail
 refine (ri.out _ HL.out.below HL.out.now HM.out.now).mono ?_
 rintro e v4 ⟨rfl, hb⟩
 have HL := Kp.mk (HL.out.step hb)
 have HM := Kp.mk (HM.out.step hb)
 clear hb
 go_wp2_with fail
 refine (qu.out _ HL.out.now HM.out.now).mono ?_
 rintro e v5 ⟨rfl, hb⟩
 have HL := Kp.mk (HL.out.step hb)
 have HM := Kp.mk (HM.out.step hb)
 clear hb
 go_wp2_with fail
 refine (qc.out _ HL.out.now HM.out.now).mono ?_
 rintro e v6 ⟨rfl, hb⟩
 have HL := Kp.mk (HL.out.step hb)
 have HM := Kp.mk (HM.out.step hb)
 clear hb
 go_wp2_with fail
 refine (qw.out _ HL.out.now HM.out.now).mono ?_
 rintro e v7 ⟨rfl, hb⟩
 have HL := Kp.mk (HL.out.step hb)
 have HM := Kp.mk (HM.out.step hb)
 clear hb
 go_wp2_with fail
 refine (qi.out _ HL.out.now HM.out.now).mono ?_
 rintro e v8 ⟨rfl, hb⟩
 have HL := Kp.mk (HL.out.step hb)
 have HM := Kp.mk (HM.out.step hb)
 clear hb
 go_wp2_with fail
 refine (rg.out _ _ _ _ _ _).mono ?_
 rintro e v9 ⟨rfl, hb⟩
 have HL := Kp.mk (HL.out.step hb)
 have HM := Kp.mk (HM.out.step hb)
 clear hb
 go_wp2_with fail
 refine (rg.out _ _ _ _ _ _).mono ?_
 rintro e v10 ⟨rfl, hb⟩
 have HL := Kp.mk (HL.out.step hb)
 have HM := Kp.mk (HM.out.step hb)
 clear hb
 go_wp2_with fail
 refine (rg.out _ _ _ _ _ _).mono ?_
 rintro e v11 ⟨rfl, hb⟩
 have HL := Kp.mk (HL.out.step hb)
 have HM := Kp.mk (HM.out.step hb)
 clear hb
 go_wp2_with fail
 refine (rsp.out _ HL.out.below HL.out.now HM.out.now).mono ?_
 rintro e v12 ⟨rfl, hb⟩
 have HL := Kp.mk (HL.out.step hb)
 have HM := Kp.mk (HM.out.step hb)
 clear hb
 go_wp2_with fail
 refine (rsr.out _ HL.out.now HM.out.now).mono ?_
 rintro e v13 ⟨rfl, hb⟩
 have HL := Kp.mk (HL.out.step hb)
 have HM := Kp.mk (HM.out.step hb)
 clear hb
 go_wp2_with fail
 refine (rl.out _ HL.out.below).mono ?_
 rintro e v14 ⟨rfl, hb⟩
 have HL := Kp.mk (HL.out.step hb)
 have HM := Kp.mk (HM.out.step hb)
 clear hb
 go_wp2_with fail
 go_ret
 exact ⟨rfl, HL.out.below⟩
set_option maxHeartbeats 16000000 in
theorem lawPairs_ok {I : World → Prop} (C : SetFns I) (w : World) (hI : I w) (A : ArgL w a l cap) (B : ArgL w b m cap2) (h1 : l.length ≤ 20) (h2 : m.length ≤ 20) (hc : bothRs l m = 0) (d0 : -9223372036854775808 ≤ d) (d1 : d ≤ 9223372036854775807) :
 Calls Tryz.prog 9 #[.slice a l.length cap, .slice b m.length cap2, .int .i64 d] w fun x w' => x = .returned (.bool true) ∧ Below w.heap.size w w' := by
 have HI := Kp.mk (fun v (hv : Below w.heap.size w v) => C.keep hI hv)
 have HL := Kp.mk A.lr
 have HM := Kp.mk B.lr
 have NL : l.length ≤ maxLen := A.len
 have NM : m.length ≤ maxLen := B.len
 have rl := Kp.mk (fun v (hv : Below w.heap.size w v) => C.lives v (HI.out v hv))
 obtain ⟨sm, hsm⟩ : ∃ s, decide (l = m) = s := ⟨_, rfl⟩
 have rsp := Kp.mk (fun v (hv : Below w.heap.size w v) (p : Lr v a l v) (q : Lr v b m v) => C.same (p := cap) (q := cap2) v (HI.out v hv) NL NM p q hsm)
 have rsr := Kp.mk (fun v (p : Lr v a l v) (q : Lr v b m v) => same_any (p := cap) (q := cap2) NL hsm p q)
 have n40 : l.length + m.length ≤ 4096 := by omega
 have n41 : m.length + l.length ≤ 4096 := by omega
 have AI : InL l := A.inl
 have BI : InL m := B.inl
 have ru := Kp.mk (fun v (hv : Below w.heap.size w v) (p : Lr v a l v) (q : Lr v b m v) => uni_s (p := cap) (q := cap2) C.toSetCore v (HI.out v hv) AI BI NL NM p q hc n40 A.room B.room)
 have rc := Kp.mk (fun v (hv : Below w.heap.size w v) (p : Lr v a l v) (q : Lr v b m v) => com_s (p := cap) (q := cap2) C.toSetCore v (HI.out v hv) AI BI NL NM p q hc n40 A.room B.room)
 have rw := Kp.mk (fun v (hv : Below w.heap.size w v) (p : Lr v a l v) (q : Lr v b m v) => wo_s (p := cap) (q := cap2) C.toSetCore v (HI.out v hv) AI BI NL NM p q hc n40 A.room B.room)
 have ru2 := Kp.mk (fun v (hv : Below w.heap.size w v) (p : Lr v a l v) (q : Lr v b m v) => uni_s (p := cap2) (q := cap) C.toSetCore v (HI.out v hv) BI AI NM NL q p (both_swap hc) n41 B.room A.room)
 have rc2 := Kp.mk (fun v (hv : Below w.heap.size w v) (p : Lr v a l v) (q : Lr v b m v) => com_s (p := cap2) (q := cap) C.toSetCore v (HI.out v hv) BI AI NM NL q p (both_swap hc) n41 B.room A.room)
 obtain ⟨t, ht⟩ : ∃ t, inRs l m = t := ⟨_, rfl⟩
 have ri := Kp.mk (fun v (hv : Below w.heap.size w v) (p : Lr v a l v) (q : Lr v b m v) => C.ins (p := cap) (q := cap2) v (HI.out v hv) AI BI NL NM p q hc ht A.room B.room)
 have qu := Kp.mk (fun v (p : Lr v a l v) (q : Lr v b m v) => refU_s (p := cap) (q := cap2) AI BI NL NM p q hc n40)
 have qc := Kp.mk (fun v (p : Lr v a l v) (q : Lr v b m v) => refC_s (p := cap) (q := cap2) AI BI NL NM p q hc n40)
 have qw := Kp.mk (fun v (p : Lr v a l v) (q : Lr v b m v) => refW_s (p := cap) (q := cap2) AI BI NL NM p q hc n40)
 have qi := Kp.mk (fun v (p : Lr v a l v) (q : Lr v b m v) => refSIn_is (p := cap) (q := cap2) AI BI NL NM p q hc ht)
 obtain ⟨hx, hhx⟩ : ∃ h, hasRs l d = h := ⟨_, rfl⟩
 obtain ⟨hy, hhy⟩ : ∃ h, hasRs m d = h := ⟨_, rfl⟩
 have HHX := Kp.mk hhx
 have HHY := Kp.mk hhy
 have HT := Kp.mk ht
 have rhx := Kp.mk (fun v (hv : Below w.heap.size w v) (p : Lr v a l v) => C.has (p := cap) v (HI.out v hv) AI NL p d0 d1 hhx)
 have rhy := Kp.mk (fun v (hv : Below w.heap.size w v) (p : Lr v b m v) => C.has (p := cap2) v (HI.out v hv) BI NM p d0 d1 hhy)
 have rh := Kp.mk (fun v (hv : Below w.heap.size w v) (u : List Rn) (x : Option Addr) (p : Nat) (e : Bool) (hi : InL u) (hn : u.length ≤ maxLen) (q : Lr v x u v) (hc : hasRs u d = e) => C.has (p := p) v (HI.out v hv) hi hn q d0 d1 hc)
 have rg := Kp.mk (fun (v : World) (u : List Rn) (x y : Option Addr) (q : Nat) (hm : u.length ≤ maxLen) (h1 : Lr v x u v) (h2 : Lr v y u v) => gives_set (q := q) hm h1 h2)
 have rsu := Kp.mk (fun (v : World) (u : List Rn) (x : Option Addr) (p : Nat) (hm : u.length ≤ maxLen) (h1 : Lr v x u v) (h2 : Lr v b m v) (he : decide (u = m) = t) => same_any (p := p) (q := cap2) hm he h1 h2)
 have KU := Kp.mk (fun (u : List Rn) (h : IsRs u (fun x => memR l x ∨ memR m x)) => show u.length ≤ maxLen by have := uni_len h; unfold maxLen; omega)
 have KC := Kp.mk (fun (u : List Rn) (h : IsRs u (fun x => memR l x ∧ memR m x)) => show u.length ≤ maxLen by have := com_len h; unfold maxLen; omega)
 have KW := Kp.mk (fun (u : List Rn) (h : IsRs u (fun x => memR l x ∧ leftM m x)) => show u.length ≤ maxLen by have := wo_len h; unfold maxLen; omega)
 obtain ⟨⟨_, cl⟩, _, cm⟩ := both_zero AI BI hc
 have EU := Kp.mk (fun (u : List Rn) (h : IsRs u (fun x => memR l x ∨ memR m x)) => uni_has (d := d) AI BI cl cm h)
 have EC := Kp.mk (fun (u : List Rn) (h : IsRs u (fun x => memR l x ∧ memR m x)) => com_has (d := d) AI BI cl cm h)
 have EW := Kp.mk (fun (u : List Rn) (h : IsRs u (fun x => memR l x ∧ leftM m x)) => wo_has (d := d) AI BI cl cm h d0 d1)
 have EI := Kp.mk (fun (u : List Rn) (h : IsRs u (fun x => memR l x ∨ memR m x)) => in_uni AI BI cl cm h)
 have t0 : decide ((20 : Int) < (l.length : Int)) = false := decide_eq_false (by omega)
 have t2 : decide ((20 : Int) < (m.length : Int)) = false := decide_eq_false (by omega)
 clear C hI A B hc hsm d0 d1 NL NM n40 n41 AI BI ht hhx hhy cl cm h1 h2
 cases hx <;> cases hy
 all_goals
  go_enter Tryz.func9, Tryz.ntmps9
  go_wp2_with fail
  refine (ru.out _ HL.out.below HL.out.now HM.out.now).mono ?_
  rintro e v1 ⟨⟨u, b1, hu, rfl, hlr⟩, hb⟩
  have G1 := Kp.mk (hlr.from' HL.out.below)
  have SU := Kp.mk hu
  clear hlr hu ru
  have HL := Kp.mk (HL.out.step hb)
  have HM := Kp.mk (HM.out.step hb)
  clear hb
  go_wp2_with fail
  refine (rc.out _ HL.out.below HL.out.now HM.out.now).mono ?_
  rintro e v2 ⟨⟨c, b2, hu, rfl, hlr⟩, hb⟩
  have G2 := Kp.mk (hlr.from' HL.out.below)
  have SC := Kp.mk hu
  clear hlr hu rc
  have HL := Kp.mk (HL.out.step hb)
  have HM := Kp.mk (HM.out.step hb)
  have G1 := Kp.mk (G1.out.step hb)
  clear hb
  go_wp2_with fail
  refine (rw.out _ HL.out.below HL.out.now HM.out.now).mono ?_
  rintro e v3 ⟨⟨x, b3, hu, rfl, hlr⟩, hb⟩
  have G3 := Kp.mk (hlr.from' HL.out.below)
  have SW := Kp.mk hu
  clear hlr hu rw
  have HL := Kp.mk (HL.out.step hb)
  have HM := Kp.mk (HM.out.step hb)
  have G1 := Kp.mk (G1.out.step hb)
  have G2 := Kp.mk (G2.out.step hb)
  clear hb
  go_wp2_with fail
  refine (ri.out _ HL.out.below HL.out.now HM.out.now).mono ?_
  rintro e v4 ⟨rfl, hb⟩
  have HL := Kp.mk (HL.out.step hb)
  have HM := Kp.mk (HM.out.step hb)
  have G1 := Kp.mk (G1.out.step hb)
  have G2 := Kp.mk (G2.out.step hb)
  have G3 := Kp.mk (G3.out.step hb)
  clear hb
  go_wp2_with fail
  refine (qu.out _ HL.out.now HM.out.now).mono ?_
  rintro e v5 ⟨⟨z, b4, p4, hu, rfl, hlr⟩, hb⟩
  have em : u = z := sets_one hu SU.out
  subst em
  have G4 := Kp.mk (hlr.from' HL.out.below)
  clear hlr hu qu
  have HL := Kp.mk (HL.out.step hb)
  have HM := Kp.mk (HM.out.step hb)
  have G1 := Kp.mk (G1.out.step hb)
  have G2 := Kp.mk (G2.out.step hb)
  have G3 := Kp.mk (G3.out.step hb)
  clear hb
  go_wp2_with fail
  refine (qc.out _ HL.out.now HM.out.now).mono ?_
  rintro e v6 ⟨⟨z, b5, p5, hu, rfl, hlr⟩, hb⟩
  have em : c = z := sets_one hu SC.out
  subst em
  have G5 := Kp.mk (hlr.from' HL.out.below)
  clear hlr hu qc
  have HL := Kp.mk (HL.out.step hb)
  have HM := Kp.mk (HM.out.step hb)
  have G1 := Kp.mk (G1.out.step hb)
  have G2 := Kp.mk (G2.out.step hb)
  have G3 := Kp.mk (G3.out.step hb)
  have G4 := Kp.mk (G4.out.step hb)
  clear hb
  go_wp2_with fail
  refine (qw.out _ HL.out.now HM.out.now).mono ?_
  rintro e v7 ⟨⟨z, b6, p6, hu, rfl, hlr⟩, hb⟩
  have em : x = z := sets_one hu SW.out
  subst em
  have G6 := Kp.mk (hlr.from' HL.out.below)
  clear hlr hu qw
  have HL := Kp.mk (HL.out.step hb)
  have HM := Kp.mk (HM.out.step hb)
  have G1 := Kp.mk (G1.out.step hb)
  have G2 := Kp.mk (G2.out.step hb)
  have G3 := Kp.mk (G3.out.step hb)
  have G4 := Kp.mk (G4.out.step hb)
  have G5 := Kp.mk (G5.out.step hb)
  clear hb
  go_wp2_with fail
  refine (qi.out _ HL.out.now HM.out.now).mono ?_
  rintro e v8 ⟨rfl, hb⟩
  have HL := Kp.mk (HL.out.step hb)
  have HM := Kp.mk (HM.out.step hb)
  have G1 := Kp.mk (G1.out.step hb)
  have G2 := Kp.mk (G2.out.step hb)
  have G3 := Kp.mk (G3.out.step hb)
  have G4 := Kp.mk (G4.out.step hb)
  have G5 := Kp.mk (G5.out.step hb)
  have G6 := Kp.mk (G6.out.step hb)
  clear hb
  clear ri qi
  go_wp2_with fail
  refine (rg.out _ _ _ _ _ (KU.out _ SU.out) G1.out.now G4.out.now).mono ?_
  rintro e v9 ⟨rfl, hb⟩
  have HL := Kp.mk (HL.out.step hb)
  have HM := Kp.mk (HM.out.step hb)
  have G1 := Kp.mk (G1.out.step hb)
  have G2 := Kp.mk (G2.out.step hb)
  have G3 := Kp.mk (G3.out.step hb)
  have G4 := Kp.mk (G4.out.step hb)
  have G5 := Kp.mk (G5.out.step hb)
  have G6 := Kp.mk (G6.out.step hb)
  clear hb
  go_wp2_with fail
  refine (rg.out _ _ _ _ _ (KC.out _ SC.out) G2.out.now G5.out.now).mono ?_
  rintro e v10 ⟨rfl, hb⟩
  have HL := Kp.mk (HL.out.step hb)
  have HM := Kp.mk (HM.out.step hb)
  have G1 := Kp.mk (G1.out.step hb)
  have G2 := Kp.mk (G2.out.step hb)
  have G3 := Kp.mk (G3.out.step hb)
  have G4 := Kp.mk (G4.out.step hb)
  have G5 := Kp.mk (G5.out.step hb)
  have G6 := Kp.mk (G6.out.step hb)
  clear hb
  go_wp2_with fail
  refine (rg.out _ _ _ _ _ (KW.out _ SW.out) G3.out.now G6.out.now).mono ?_
  rintro e v11 ⟨rfl, hb⟩
  have HL := Kp.mk (HL.out.step hb)
  have HM := Kp.mk (HM.out.step hb)
  have G1 := Kp.mk (G1.out.step hb)
  have G2 := Kp.mk (G2.out.step hb)
  have G3 := Kp.mk (G3.out.step hb)
  have G4 := Kp.mk (G4.out.step hb)
  have G5 := Kp.mk (G5.out.step hb)
  have G6 := Kp.mk (G6.out.step hb)
  clear hb
  go_wp2_with fail
  refine (rsp.out _ HL.out.below HL.out.now HM.out.now).mono ?_
  rintro e v12 ⟨rfl, hb⟩
  have HL := Kp.mk (HL.out.step hb)
  have HM := Kp.mk (HM.out.step hb)
  have G1 := Kp.mk (G1.out.step hb)
  have G2 := Kp.mk (G2.out.step hb)
  have G3 := Kp.mk (G3.out.step hb)
  have G4 := Kp.mk (G4.out.step hb)
  have G5 := Kp.mk (G5.out.step hb)
  have G6 := Kp.mk (G6.out.step hb)
  clear hb
  go_wp2_with fail
  refine (rsr.out _ HL.out.now HM.out.now).mono ?_
  rintro e v13 ⟨rfl, hb⟩
  have HL := Kp.mk (HL.out.step hb)
  have HM := Kp.mk (HM.out.step hb)
  have G1 := Kp.mk (G1.out.step hb)
  have G2 := Kp.mk (G2.out.step hb)
  have G3 := Kp.mk (G3.out.step hb)
  have G4 := Kp.mk (G4.out.step hb)
  have G5 := Kp.mk (G5.out.step hb)
  have G6 := Kp.mk (G6.out.step hb)
  clear hb
  clear rsp rsr
  go_wp2_with fail
  refine (rhx.out _ HL.out.below HL.out.now).mono ?_
  rintro e v14 ⟨rfl, hb⟩
  have HL := Kp.mk (HL.out.step hb)
  have HM := Kp.mk (HM.out.step hb)
  have G1 := Kp.mk (G1.out.step hb)
  have G2 := Kp.mk (G2.out.step hb)
  have G3 := Kp.mk (G3.out.step hb)
  have G4 := Kp.mk (G4.out.step hb)
  have G5 := Kp.mk (G5.out.step hb)
  have G6 := Kp.mk (G6.out.step hb)
  clear hb
  go_wp2_with fail
  refine (rhy.out _ HL.out.below HM.out.now).mono ?_
  rintro e v15 ⟨rfl, hb⟩
  have HL := Kp.mk (HL.out.step hb)
  have HM := Kp.mk (HM.out.step hb)
  have G1 := Kp.mk (G1.out.step hb)
  have G2 := Kp.mk (G2.out.step hb)
  have G3 := Kp.mk (G3.out.step hb)
  have G4 := Kp.mk (G4.out.step hb)
  have G5 := Kp.mk (G5.out.step hb)
  have G6 := Kp.mk (G6.out.step hb)
  clear hb
  go_wp2_with fail
  refine (rh.out _ HL.out.below u _ _ _ (isrs_in SU.out) (KU.out _ SU.out) G1.out.now ((EU.out _ SU.out).trans (by rw [HHX.out, HHY.out]))).mono ?_
  rintro e v16 ⟨rfl, hb⟩
  have HL := Kp.mk (HL.out.step hb)
  have HM := Kp.mk (HM.out.step hb)
  have G1 := Kp.mk (G1.out.step hb)
  have G2 := Kp.mk (G2.out.step hb)
  have G3 := Kp.mk (G3.out.step hb)
  have G4 := Kp.mk (G4.out.step hb)
  have G5 := Kp.mk (G5.out.step hb)
  have G6 := Kp.mk (G6.out.step hb)
  clear hb
  go_wp2_with fail
  refine (rh.out _ HL.out.below c _ _ _ (isrs_in SC.out) (KC.out _ SC.out) G2.out.now ((EC.out _ SC.out).trans (by rw [HHX.out, HHY.out]))).mono ?_
  rintro e v17 ⟨rfl, hb⟩
  have HL := Kp.mk (HL.out.step hb)
  have HM := Kp.mk (HM.out.step hb)
  have G1 := Kp.mk (G1.out.step hb)
  have G2 := Kp.mk (G2.out.step hb)
  have G3 := Kp.mk (G3.out.step hb)
  have G4 := Kp.mk (G4.out.step hb)
  have G5 := Kp.mk (G5.out.step hb)
  have G6 := Kp.mk (G6.out.step hb)
  clear hb
  go_wp2_with fail
  refine (rh.out _ HL.out.below x _ _ _ (isrs_in SW.out) (KW.out _ SW.out) G3.out.now ((EW.out _ SW.out).trans (by rw [HHX.out, HHY.out]))).mono ?_
  rintro e v18 ⟨rfl, hb⟩
  have HL := Kp.mk (HL.out.step hb)
  have HM := Kp.mk (HM.out.step hb)
  have G1 := Kp.mk (G1.out.step hb)
  have G2 := Kp.mk (G2.out.step hb)
  have G3 := Kp.mk (G3.out.step hb)
  have G4 := Kp.mk (G4.out.step hb)
  have G5 := Kp.mk (G5.out.step hb)
  have G6 := Kp.mk (G6.out.step hb)
  clear hb
  clear rh rhx rhy
  go_wp2_with fail
  refine (ru2.out _ HL.out.below HL.out.now HM.out.now).mono ?_
  rintro e v19 ⟨⟨z, b7, hu, rfl, hlr⟩, hb⟩
  have em : u = z := sets_one (isrs_swap hu) SU.out
  subst em
  have G7 := Kp.mk (hlr.from' HL.out.below)
  clear hlr hu ru2
  have HL := Kp.mk (HL.out.step hb)
  have HM := Kp.mk (HM.out.step hb)
  have G1 := Kp.mk (G1.out.step hb)
  have G2 := Kp.mk (G2.out.step hb)
  have G3 := Kp.mk (G3.out.step hb)
  have G4 := Kp.mk (G4.out.step hb)
  have G5 := Kp.mk (G5.out.step hb)
  have G6 := Kp.mk (G6.out.step hb)
  clear hb
  go_wp2_with fail
  refine (rc2.out _ HL.out.below HL.out.now HM.out.now).mono ?_
  rintro e v20 ⟨⟨z, b8, hu, rfl, hlr⟩, hb⟩
  have em : c = z := sets_one (isrs_swap' hu) SC.out
  subst em
  have G8 := Kp.mk (hlr.from' HL.out.below)
  clear hlr hu rc2
  have HL := Kp.mk (HL.out.step hb)
  have HM := Kp.mk (HM.out.step hb)
  have G1 := Kp.mk (G1.out.step hb)
  have G2 := Kp.mk (G2.out.step hb)
  have G3 := Kp.mk (G3.out.step hb)
  have G4 := Kp.mk (G4.out.step hb)
  have G5 := Kp.mk (G5.out.step hb)
  have G6 := Kp.mk (G6.out.step hb)
  have G7 := Kp.mk (G7.out.step hb)
  clear hb
  go_wp2_with fail
  refine (rg.out _ _ _ _ _ (KU.out _ SU.out) G7.out.now G4.out.now).mono ?_
  rintro e v21 ⟨rfl, hb⟩
  have HL := Kp.mk (HL.out.step hb)
  have HM := Kp.mk (HM.out.step hb)
  have G1 := Kp.mk (G1.out.step hb)
  have G2 := Kp.mk (G2.out.step hb)
  have G3 := Kp.mk (G3.out.step hb)
  have G4 := Kp.mk (G4.out.step hb)
  have G5 := Kp.mk (G5.out.step hb)
  have G6 := Kp.mk (G6.out.step hb)
  have G7 := Kp.mk (G7.out.step hb)
  have G8 := Kp.mk (G8.out.step hb)
  clear hb
  go_wp2_with fail
  refine (rg.out _ _ _ _ _ (KC.out _ SC.out) G8.out.now G5.out.now).mono ?_
  rintro e v22 ⟨rfl, hb⟩
  have HL := Kp.mk (HL.out.step hb)
  have HM := Kp.mk (HM.out.step hb)
  have G1 := Kp.mk (G1.out.step hb)
  have G2 := Kp.mk (G2.out.step hb)
  have G3 := Kp.mk (G3.out.step hb)
  have G4 := Kp.mk (G4.out.step hb)
  have G5 := Kp.mk (G5.out.step hb)
  have G6 := Kp.mk (G6.out.step hb)
  have G7 := Kp.mk (G7.out.step hb)
  have G8 := Kp.mk (G8.out.step hb)
  clear hb
  go_wp2_with fail
  refine (rsu.out _ u _ _ (KU.out _ SU.out) G1.out.now HM.out.now ((EI.out _ SU.out).trans HT.out)).mono ?_
  rintro e v23 ⟨rfl, hb⟩
  have HL := Kp.mk (HL.out.step hb)
  have HM := Kp.mk (HM.out.step hb)
  have G1 := Kp.mk (G1.out.step hb)
  have G2 := Kp.mk (G2.out.step hb)
  have G3 := Kp.mk (G3.out.step hb)
  have G4 := Kp.mk (G4.out.step hb)
  have G5 := Kp.mk (G5.out.step hb)
  have G6 := Kp.mk (G6.out.step hb)
  have G7 := Kp.mk (G7.out.step hb)
  have G8 := Kp.mk (G8.out.step hb)
  clear hb
  go_wp2_with fail
  refine (rl.out _ HL.out.below).mono ?_
  rintro e v24 ⟨rfl, hb⟩
  have HL := Kp.mk (HL.out.step hb)
  have HM := Kp.mk (HM.out.step hb)
  have G1 := Kp.mk (G1.out.step hb)
  have G2 := Kp.mk (G2.out.step hb)
  have G3 := Kp.mk (G3.out.step hb)
  have G4 := Kp.mk (G4.out.step hb)
  have G5 := Kp.mk (G5.out.step hb)
  have G6 := Kp.mk (G6.out.step hb)
  have G7 := Kp.mk (G7.out.step hb)
  have G8 := Kp.mk (G8.out.step hb)
  clear hb
  go_wp2_with fail
  go_ret
  exact ⟨rfl, HL.out.below⟩
theorem lawPairs_any {I : World → Prop} (C : SetFns I) (A : ArgL w a l cap) (B : ArgL w b m cap2) (hI : I w) (d0 : -9223372036854775808 ≤ d) (d1 : d ≤ 9223372036854775807) :
 Calls Tryz.prog 9 #[.slice a l.length cap, .slice b m.length cap2, .int .i64 d] w fun x w' => x = .returned (.bool true) ∧ Below w.heap.size w w' := by
 by_cases h1 : 20 < l.length
 ·exact lawPairs_long1 C w hI h1 A.len B.len
 ·by_cases h2 : 20 < m.length
  ·exact lawPairs_long2 C w hI h1 h2 A.len B.len
  ·by_cases hc : bothRs l m = 0
   ·exact lawPairs_ok C w hI A B (by omega) (by omega) hc d0 d1
   ·exact lawPairs_bad C w hI A B (by omega) (by omega) rfl hc
end
end Go.Proofs.YtndjcmclmhoigaaGreatDoor
