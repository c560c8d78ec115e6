/-
 DERIVED. CONTRACTS of the reference of layer 9 (runs): Join, Common, Within. Written by mkrnrefb.py.
 DERIVED. What it makes of a right run set to put a right run into it; when a list of runs is a right run set. No program.
-/
import Derived.Test.YtndjcmclmhoigaaGreatDoorPA3
import Derived.Test.YtndjcmclmhoigaaGreatDoorPA4
namespace Go.Proofs.YtndjcmclmhoigaaGreatDoor
open Go.RowKit
set_option maxRecDepth 100000

set_option maxHeartbeats 4000000 in
theorem refJoin_is {a b v : Rn} (hv : joinN a b = v) (w : World) :
 Calls Tryz.prog 24 #[.agg #[.int .i8 a.f, .int .i64 a.d, .int .i8 a.g, .int .i64 a.e], .agg #[.int .i8 b.f, .int .i64 b.d, .int .i8 b.g, .int .i64 b.e]] w fun x w' => x = .returned (.agg #[.int .i8 v.f, .int .i64 v.d, .int .i8 v.g, .int .i64 v.e]) ∧ Below w.heap.size w w' := by
 have HJ := Kp.mk (jn_new w a b)
 obtain ⟨q1, hq1⟩ : ∃ q, cmpE b.f b.d a.f a.d = q := ⟨_, rfl⟩
 obtain ⟨q2, hq2⟩ : ∃ q, cmpE b.g b.e a.g a.e = q := ⟨_, rfl⟩
 have r1 := Kp.mk (fun w => refECmp_is hq1 w)
 have r2 := Kp.mk (fun w => refECmp_is hq2 w)
 have E1 : v.f = (if q1 < 0 then b.f else a.f) ∧ v.d = (if q1 < 0 then b.d else a.d) := by rw [← hv]; unfold joinN; simp only; rw [hq1]; exact ⟨rfl, rfl⟩
 have E2 : v.g = (if 0 < q2 then b.g else a.g) ∧ v.e = (if 0 < q2 then b.e else a.e) := by rw [← hv]; unfold joinN; simp only; rw [hq2]; exact ⟨rfl, rfl⟩
 clear hv hq1 hq2
 by_cases h1 : q1 < 0
 ·by_cases h2 : 0 < q2
  ·have E1 := Kp.mk (show v.f = b.f ∧ v.d = b.d by rw [if_pos h1, if_pos h1] at E1; exact E1)
   have E2 := Kp.mk (show v.g = b.g ∧ v.e = b.e by rw [if_pos h2, if_pos h2] at E2; exact E2)
   go_enter Tryz.func24, Tryz.ntmps24
   go_upto_region 2 with fail
   generalize (((w.alloc (.cells #[.int .i8 a.f, .int .i64 a.d, .int .i8 a.g, .int .i64 a.e] 26)).alloc (.cells #[.int .i8 b.f, .int .i64 b.d, .int .i8 b.g, .int .i64 b.e] 26)).alloc (.cells #[.int .i8 0, .int .i64 0, .int .i8 0, .int .i64 0] 26)).alloc (.cells #[.int .i8 a.f, .int .i64 a.d, .int .i8 a.g, .int .i64 a.e] 26) = w0 at *
   have kb0 := HJ.out.b.c0
   have kb1 := HJ.out.b.c1
   have kb2 := HJ.out.b.c2
   have kb3 := HJ.out.b.c3
   obtain ⟨kr0, kr1, kr2, kr3⟩ := HJ.out.cells
   have fr0 := HJ.out.frozen 0
   have fr1 := HJ.out.frozen 1
   have fr2 := HJ.out.frozen 2
   have fr3 := HJ.out.frozen 3
   go_wp2_with fail
   refine (r1.out _).mono ?_
   rintro e u1 ⟨rfl, hbl⟩
   clear kb0 kb1 kb2 kb3 kr0 kr1 kr2 kr3 fr0 fr1 fr2 fr3
   have HJ := Kp.mk (HJ.out.step hbl)
   clear hbl
   have kb0 := HJ.out.b.c0
   have kb1 := HJ.out.b.c1
   have kb2 := HJ.out.b.c2
   have kb3 := HJ.out.b.c3
   obtain ⟨kr0, kr1, kr2, kr3⟩ := HJ.out.cells
   have fr0 := HJ.out.frozen 0
   have fr1 := HJ.out.frozen 1
   have fr2 := HJ.out.frozen 2
   have fr3 := HJ.out.frozen 3
   go_upto_region 4 with fail
   clear kb0 kb1 kb2 kb3 kr0 kr1 kr2 kr3 fr0 fr1 fr2 fr3
   have HJ := Kp.mk (HJ.out.lo b.f b.d)
   have kb0 := HJ.out.b.c0
   have kb1 := HJ.out.b.c1
   have kb2 := HJ.out.b.c2
   have kb3 := HJ.out.b.c3
   obtain ⟨kr0, kr1, kr2, kr3⟩ := HJ.out.cells
   have fr0 := HJ.out.frozen 0
   have fr1 := HJ.out.frozen 1
   have fr2 := HJ.out.frozen 2
   have fr3 := HJ.out.frozen 3
   go_wp2_with fail
   refine (r2.out _).mono ?_
   rintro e u2 ⟨rfl, hbl⟩
   clear kb0 kb1 kb2 kb3 kr0 kr1 kr2 kr3 fr0 fr1 fr2 fr3
   have HJ := Kp.mk (HJ.out.step hbl)
   clear hbl
   have kb0 := HJ.out.b.c0
   have kb1 := HJ.out.b.c1
   have kb2 := HJ.out.b.c2
   have kb3 := HJ.out.b.c3
   obtain ⟨kr0, kr1, kr2, kr3⟩ := HJ.out.cells
   have fr0 := HJ.out.frozen 0
   have fr1 := HJ.out.frozen 1
   have fr2 := HJ.out.frozen 2
   have fr3 := HJ.out.frozen 3
   go_upto_region 6 with fail
   clear kb0 kb1 kb2 kb3 kr0 kr1 kr2 kr3 fr0 fr1 fr2 fr3
   have HJ := Kp.mk (HJ.out.hi b.g b.e)
   have kb0 := HJ.out.b.c0
   have kb1 := HJ.out.b.c1
   have kb2 := HJ.out.b.c2
   have kb3 := HJ.out.b.c3
   obtain ⟨kr0, kr1, kr2, kr3⟩ := HJ.out.cells
   have fr0 := HJ.out.frozen 0
   have fr1 := HJ.out.frozen 1
   have fr2 := HJ.out.frozen 2
   have fr3 := HJ.out.frozen 3
   go_wp2_with (first
    | refine wpList_store_row' rfl 26 (.tmp 4) (.tmp 25) rfl (w.heap.size + 1 + 1) #[.int .i8 b.f, .int .i64 b.d, .int .i8 b.g, .int .i64 b.e] rfl rfl 26 #[.int .i8 0, .int .i64 0, .int .i8 0, .int .i64 0] HJ.out.z infoRn rfl (four_rn _ _ _ _) ?_)
   refine bodyPost_ret (results_cell_row (p := 4) (ty := 26) rfl _ _ (w.heap.size + 1 + 1) 26 #[.int .i8 b.f, .int .i64 b.d, .int .i8 b.g, .int .i64 b.e] (0, 0) _ rfl (setRow_heap _ _ _ _ _ _ HJ.out.z) Tryz.underlying26 rfl infoRn) rfl ?_
   exact ⟨by rw [E1.out.1, E1.out.2, E2.out.1, E2.out.2], below_setRow HJ.out.below (Nat.le_add_right _ (1 + 1)) _⟩
  ·have E1 := Kp.mk (show v.f = b.f ∧ v.d = b.d by rw [if_pos h1, if_pos h1] at E1; exact E1)
   have E2 := Kp.mk (show v.g = a.g ∧ v.e = a.e by rw [if_neg h2, if_neg h2] at E2; exact E2)
   go_enter Tryz.func24, Tryz.ntmps24
   go_upto_region 2 with fail
   generalize (((w.alloc (.cells #[.int .i8 a.f, .int .i64 a.d, .int .i8 a.g, .int .i64 a.e] 26)).alloc (.cells #[.int .i8 b.f, .int .i64 b.d, .int .i8 b.g, .int .i64 b.e] 26)).alloc (.cells #[.int .i8 0, .int .i64 0, .int .i8 0, .int .i64 0] 26)).alloc (.cells #[.int .i8 a.f, .int .i64 a.d, .int .i8 a.g, .int .i64 a.e] 26) = w0 at *
   have kb0 := HJ.out.b.c0
   have kb1 := HJ.out.b.c1
   have kb2 := HJ.out.b.c2
   have kb3 := HJ.out.b.c3
   obtain ⟨kr0, kr1, kr2, kr3⟩ := HJ.out.cells
   have fr0 := HJ.out.frozen 0
   have fr1 := HJ.out.frozen 1
   have fr2 := HJ.out.frozen 2
   have fr3 := HJ.out.frozen 3
   go_wp2_with fail
   refine (r1.out _).mono ?_
   rintro e u1 ⟨rfl, hbl⟩
   clear kb0 kb1 kb2 kb3 kr0 kr1 kr2 kr3 fr0 fr1 fr2 fr3
   have HJ := Kp.mk (HJ.out.step hbl)
   clear hbl
   have kb0 := HJ.out.b.c0
   have kb1 := HJ.out.b.c1
   have kb2 := HJ.out.b.c2
   have kb3 := HJ.out.b.c3
   obtain ⟨kr0, kr1, kr2, kr3⟩ := HJ.out.cells
   have fr0 := HJ.out.frozen 0
   have fr1 := HJ.out.frozen 1
   have fr2 := HJ.out.frozen 2
   have fr3 := HJ.out.frozen 3
   go_upto_region 4 with fail
   clear kb0 kb1 kb2 kb3 kr0 kr1 kr2 kr3 fr0 fr1 fr2 fr3
   have HJ := Kp.mk (HJ.out.lo b.f b.d)
   have kb0 := HJ.out.b.c0
   have kb1 := HJ.out.b.c1
   have kb2 := HJ.out.b.c2
   have kb3 := HJ.out.b.c3
   obtain ⟨kr0, kr1, kr2, kr3⟩ := HJ.out.cells
   have fr0 := HJ.out.frozen 0
   have fr1 := HJ.out.frozen 1
   have fr2 := HJ.out.frozen 2
   have fr3 := HJ.out.frozen 3
   go_wp2_with fail
   refine (r2.out _).mono ?_
   rintro e u2 ⟨rfl, hbl⟩
   clear kb0 kb1 kb2 kb3 kr0 kr1 kr2 kr3 fr0 fr1 fr2 fr3
   have HJ := Kp.mk (HJ.out.step hbl)
   clear hbl
   have kb0 := HJ.out.b.c0
   have kb1 := HJ.out.b.c1
   have kb2 := HJ.out.b.c2
   have kb3 := HJ.out.b.c3
   obtain ⟨kr0, kr1, kr2, kr3⟩ := HJ.out.cells
   have fr0 := HJ.out.frozen 0
   have fr1 := HJ.out.frozen 1
   have fr2 := HJ.out.frozen 2
   have fr3 := HJ.out.frozen 3
   go_upto_region 6 with fail
   go_wp2_with (first
    | refine wpList_store_row' rfl 26 (.tmp 4) (.tmp 25) rfl (w.heap.size + 1 + 1) #[.int .i8 b.f, .int .i64 b.d, .int .i8 a.g, .int .i64 a.e] rfl rfl 26 #[.int .i8 0, .int .i64 0, .int .i8 0, .int .i64 0] HJ.out.z infoRn rfl (four_rn _ _ _ _) ?_)
   refine bodyPost_ret (results_cell_row (p := 4) (ty := 26) rfl _ _ (w.heap.size + 1 + 1) 26 #[.int .i8 b.f, .int .i64 b.d, .int .i8 a.g, .int .i64 a.e] (0, 0) _ rfl (setRow_heap _ _ _ _ _ _ HJ.out.z) Tryz.underlying26 rfl infoRn) rfl ?_
   exact ⟨by rw [E1.out.1, E1.out.2, E2.out.1, E2.out.2], below_setRow HJ.out.below (Nat.le_add_right _ (1 + 1)) _⟩
 ·by_cases h2 : 0 < q2
  ·have E1 := Kp.mk (show v.f = a.f ∧ v.d = a.d by rw [if_neg h1, if_neg h1] at E1; exact E1)
   have E2 := Kp.mk (show v.g = b.g ∧ v.e = b.e by rw [if_pos h2, if_pos h2] at E2; exact E2)
   go_enter Tryz.func24, Tryz.ntmps24
   go_upto_region 2 with fail
   generalize (((w.alloc (.cells #[.int .i8 a.f, .int .i64 a.d, .int .i8 a.g, .int .i64 a.e] 26)).alloc (.cells #[.int .i8 b.f, .int .i64 b.d, .int .i8 b.g, .int .i64 b.e] 26)).alloc (.cells #[.int .i8 0, .int .i64 0, .int .i8 0, .int .i64 0] 26)).alloc (.cells #[.int .i8 a.f, .int .i64 a.d, .int .i8 a.g, .int .i64 a.e] 26) = w0 at *
   have kb0 := HJ.out.b.c0
   have kb1 := HJ.out.b.c1
   have kb2 := HJ.out.b.c2
   have kb3 := HJ.out.b.c3
   obtain ⟨kr0, kr1, kr2, kr3⟩ := HJ.out.cells
   have fr0 := HJ.out.frozen 0
   have fr1 := HJ.out.frozen 1
   have fr2 := HJ.out.frozen 2
   have fr3 := HJ.out.frozen 3
   go_wp2_with fail
   refine (r1.out _).mono ?_
   rintro e u1 ⟨rfl, hbl⟩
   clear kb0 kb1 kb2 kb3 kr0 kr1 kr2 kr3 fr0 fr1 fr2 fr3
   have HJ := Kp.mk (HJ.out.step hbl)
   clear hbl
   have kb0 := HJ.out.b.c0
   have kb1 := HJ.out.b.c1
   have kb2 := HJ.out.b.c2
   have kb3 := HJ.out.b.c3
   obtain ⟨kr0, kr1, kr2, kr3⟩ := HJ.out.cells
   have fr0 := HJ.out.frozen 0
   have fr1 := HJ.out.frozen 1
   have fr2 := HJ.out.frozen 2
   have fr3 := HJ.out.frozen 3
   go_upto_region 4 with fail
   go_wp2_with fail
   refine (r2.out _).mono ?_
   rintro e u2 ⟨rfl, hbl⟩
   clear kb0 kb1 kb2 kb3 kr0 kr1 kr2 kr3 fr0 fr1 fr2 fr3
   have HJ := Kp.mk (HJ.out.step hbl)
   clear hbl
   have kb0 := HJ.out.b.c0
   have kb1 := HJ.out.b.c1
   have kb2 := HJ.out.b.c2
   have kb3 := HJ.out.b.c3
   obtain ⟨kr0, kr1, kr2, kr3⟩ := HJ.out.cells
   have fr0 := HJ.out.frozen 0
   have fr1 := HJ.out.frozen 1
   have fr2 := HJ.out.frozen 2
   have fr3 := HJ.out.frozen 3
   go_upto_region 6 with fail
   clear kb0 kb1 kb2 kb3 kr0 kr1 kr2 kr3 fr0 fr1 fr2 fr3
   have HJ := Kp.mk (HJ.out.hi b.g b.e)
   have kb0 := HJ.out.b.c0
   have kb1 := HJ.out.b.c1
   have kb2 := HJ.out.b.c2
   have kb3 := HJ.out.b.c3
   obtain ⟨kr0, kr1, kr2, kr3⟩ := HJ.out.cells
   have fr0 := HJ.out.frozen 0
   have fr1 := HJ.out.frozen 1
   have fr2 := HJ.out.frozen 2
   have fr3 := HJ.out.frozen 3
   go_wp2_with (first
    | refine wpList_store_row' rfl 26 (.tmp 4) (.tmp 25) rfl (w.heap.size + 1 + 1) #[.int .i8 a.f, .int .i64 a.d, .int .i8 b.g, .int .i64 b.e] rfl rfl 26 #[.int .i8 0, .int .i64 0, .int .i8 0, .int .i64 0] HJ.out.z infoRn rfl (four_rn _ _ _ _) ?_)
   refine bodyPost_ret (results_cell_row (p := 4) (ty := 26) rfl _ _ (w.heap.size + 1 + 1) 26 #[.int .i8 a.f, .int .i64 a.d, .int .i8 b.g, .int .i64 b.e] (0, 0) _ rfl (setRow_heap _ _ _ _ _ _ HJ.out.z) Tryz.underlying26 rfl infoRn) rfl ?_
   exact ⟨by rw [E1.out.1, E1.out.2, E2.out.1, E2.out.2], below_setRow HJ.out.below (Nat.le_add_right _ (1 + 1)) _⟩
  ·have E1 := Kp.mk (show v.f = a.f ∧ v.d = a.d by rw [if_neg h1, if_neg h1] at E1; exact E1)
   have E2 := Kp.mk (show v.g = a.g ∧ v.e = a.e by rw [if_neg h2, if_neg h2] at E2; exact E2)
   go_enter Tryz.func24, Tryz.ntmps24
   go_upto_region 2 with fail
   generalize (((w.alloc (.cells #[.int .i8 a.f, .int .i64 a.d, .int .i8 a.g, .int .i64 a.e] 26)).alloc (.cells #[.int .i8 b.f, .int .i64 b.d, .int .i8 b.g, .int .i64 b.e] 26)).alloc (.cells #[.int .i8 0, .int .i64 0, .int .i8 0, .int .i64 0] 26)).alloc (.cells #[.int .i8 a.f, .int .i64 a.d, .int .i8 a.g, .int .i64 a.e] 26) = w0 at *
   have kb0 := HJ.out.b.c0
   have kb1 := HJ.out.b.c1
   have kb2 := HJ.out.b.c2
   have kb3 := HJ.out.b.c3
   obtain ⟨kr0, kr1, kr2, kr3⟩ := HJ.out.cells
   have fr0 := HJ.out.frozen 0
   have fr1 := HJ.out.frozen 1
   have fr2 := HJ.out.frozen 2
   have fr3 := HJ.out.frozen 3
   go_wp2_with fail
   refine (r1.out _).mono ?_
   rintro e u1 ⟨rfl, hbl⟩
   clear kb0 kb1 kb2 kb3 kr0 kr1 kr2 kr3 fr0 fr1 fr2 fr3
   have HJ := Kp.mk (HJ.out.step hbl)
   clear hbl
   have kb0 := HJ.out.b.c0
   have kb1 := HJ.out.b.c1
   have kb2 := HJ.out.b.c2
   have kb3 := HJ.out.b.c3
   obtain ⟨kr0, kr1, kr2, kr3⟩ := HJ.out.cells
   have fr0 := HJ.out.frozen 0
   have fr1 := HJ.out.frozen 1
   have fr2 := HJ.out.frozen 2
   have fr3 := HJ.out.frozen 3
   go_upto_region 4 with fail
   go_wp2_with fail
   refine (r2.out _).mono ?_
   rintro e u2 ⟨rfl, hbl⟩
   clear kb0 kb1 kb2 kb3 kr0 kr1 kr2 kr3 fr0 fr1 fr2 fr3
   have HJ := Kp.mk (HJ.out.step hbl)
   clear hbl
   have kb0 := HJ.out.b.c0
   have kb1 := HJ.out.b.c1
   have kb2 := HJ.out.b.c2
   have kb3 := HJ.out.b.c3
   obtain ⟨kr0, kr1, kr2, kr3⟩ := HJ.out.cells
   have fr0 := HJ.out.frozen 0
   have fr1 := HJ.out.frozen 1
   have fr2 := HJ.out.frozen 2
   have fr3 := HJ.out.frozen 3
   go_upto_region 6 with fail
   go_wp2_with (first
    | refine wpList_store_row' rfl 26 (.tmp 4) (.tmp 25) rfl (w.heap.size + 1 + 1) #[.int .i8 a.f, .int .i64 a.d, .int .i8 a.g, .int .i64 a.e] rfl rfl 26 #[.int .i8 0, .int .i64 0, .int .i8 0, .int .i64 0] HJ.out.z infoRn rfl (four_rn _ _ _ _) ?_)
   refine bodyPost_ret (results_cell_row (p := 4) (ty := 26) rfl _ _ (w.heap.size + 1 + 1) 26 #[.int .i8 a.f, .int .i64 a.d, .int .i8 a.g, .int .i64 a.e] (0, 0) _ rfl (setRow_heap _ _ _ _ _ _ HJ.out.z) Tryz.underlying26 rfl infoRn) rfl ?_
   exact ⟨by rw [E1.out.1, E1.out.2, E2.out.1, E2.out.2], below_setRow HJ.out.below (Nat.le_add_right _ (1 + 1)) _⟩
end Go.Proofs.YtndjcmclmhoigaaGreatDoor
namespace Go.Proofs.YtndjcmclmhoigaaGreatDoor

/-- a run is put where it belongs -/
def insR (r : Rn) : List Rn → List Rn
 | [] => [r]
 | a :: t => if cmpR r a < 0 then r :: a :: t else a :: insR r t
theorem touch_swap {a b : Rn} (ha : a.Ok) (hb : b.Ok) (h : touchN a b = false) : touchN b a = false := by
 cases e : touchN b a with
 | false => rfl
 | true =>
  have h1 := (touch_iff hb ha).1 e
  rw [(touch_iff ha hb).2 ⟨h1.2, h1.1⟩] at h
  cases h
theorem ins_mem {r : Rn} : ∀ {l : List Rn} {b : Rn}, b ∈ insR r l ↔ b = r ∨ b ∈ l
 | [], b => by unfold insR; simp
 | a :: t, b => by
  unfold insR
  split
  ·simp [List.mem_cons]
  ·rw [List.mem_cons, ins_mem, List.mem_cons]
   constructor
   ·rintro (h | h | h)
    ·exact .inr (.inl h)
    ·exact .inl h
    ·exact .inr (.inr h)
   ·rintro (h | h | h)
    ·exact .inr (.inl h)
    ·exact .inl h
    ·exact .inr (.inr h)
theorem ins_can {r : Rn} (hr : r.Ok) : ∀ {l : List Rn}, RsCan l → (∀ a, a ∈ l → touchN a r = false) → RsCan (insR r l)
 | [], _, _ => by unfold insR; exact rsc_cons.2 ⟨hr, fun _ h => (by cases h), rsc_nil⟩
 | a :: t, hl, ht => by
  obtain ⟨ha, hg, hc⟩ := rsc_cons.1 hl
  have t1 := ht a (by simp)
  have t2 := touch_swap ha hr t1
  unfold insR
  by_cases h : cmpR r a < 0
  ·rw [if_pos h]
   have h1 := (cmp_apart hr ha t2).1 h
   refine rsc_cons.2 ⟨hr, fun b hb => ?_, hl⟩
   rcases List.mem_cons.1 hb with rfl | hb
   ·exact h1
   ·have := hg b hb
    have := ha.pos.le
    omega
  ·rw [if_neg h]
   have h1 : a.hi + 1 < r.lo := by
    rcases run_apart ha hr t1 with g | g
    ·exact g
    ·exact absurd ((cmp_apart hr ha t2).2 g) h
   refine rsc_cons.2 ⟨ha, fun b hb => ?_, ins_can hr hc fun b hb => ht b (List.mem_cons.2 (.inr hb))⟩
   rcases ins_mem.1 hb with rfl | hb
   ·exact h1
   ·exact hg b hb
theorem ins_has {r : Rn} {l : List Rn} (x : Int) : memR (insR r l) x ↔ memR l x ∨ r.has x := by
 constructor
 ·rintro ⟨b, hb, h⟩
  rcases ins_mem.1 hb with rfl | hb
  ·exact .inr h
  ·exact .inl ⟨b, hb, h⟩
 ·rintro (⟨b, hb, h⟩ | h)
  ·exact ⟨b, ins_mem.2 (.inr hb), h⟩
  ·exact ⟨r, ins_mem.2 (.inl rfl), h⟩
/-- what touches a run is joined with it, and taken out -/
theorem erase_can {l : List Rn} {k : Nat} {a r : Rn} (hl : RsCan l) (hr : r.Ok) (hk : l[k]? = some a) (ht : touchN a r = true) : RsCan (l.eraseIdx k) ∧ (joinN a r).Ok ∧ ∀ x, (memR (l.eraseIdx k) x ∨ (joinN a r).has x) ↔ (memR l x ∨ r.has x) := by
 obtain ⟨hk1, hk2⟩ := List.getElem?_eq_some_iff.1 hk
 have e1 : l = l.take k ++ a :: l.drop (k + 1) := by
  conv => lhs; rw [← List.take_append_drop k l, List.drop_eq_getElem_cons hk1, hk2]
 have e2 : l.eraseIdx k = l.take k ++ l.drop (k + 1) := List.eraseIdx_eq_take_drop_succ l k
 rw [e1] at hl
 obtain ⟨h1, h2⟩ := rsc_parts hl
 have h3 : ∀ x, memR l x ↔ a.has x ∨ memR (l.take k ++ l.drop (k + 1)) x := fun x => by
  conv => lhs; rw [e1]
  exact memR_parts
 refine ⟨by rw [e2]; exact h1, (join_ok h2 hr).1, fun x => ?_⟩
 rw [e2, h3 x, has_joinP h2 hr ht x]
 constructor
 ·rintro (h | h | h)
  ·exact .inl (.inr h)
  ·exact .inl (.inl h)
  ·exact .inr h
 ·rintro ((h | h) | h)
  ·exact .inr (.inl h)
  ·exact .inl h
  ·exact .inr (.inr h)
end Go.Proofs.YtndjcmclmhoigaaGreatDoor
