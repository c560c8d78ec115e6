/-
  DERIVED. A run as plain data, and the run that it means (the statements' own R), given the contracts of package runs. Written by mkrn4.py.
-/
import Derived.Test.YteddfolhpoikcaaDoorPRg
import Derived.Test.YteddfolhpoikcaaDoorPRnPlainM
namespace Go.Proofs.YteddfolhpoikcaaDoor
open Go.RowKit
set_option maxRecDepth 100000

/-- the call's own blocks: the result's, the run's -/
structure Po (w : World) (k l x f d g e : Int) (W : World) : Prop where
  below : Below w.heap.size w W
  p : W.heap[w.heap.size]? = some (.cells #[.int .u8 k, .int .u8 l, .int .i16 x] 49 (0, 0))
  z : W.heap[w.heap.size + 1]? = some (.cells #[.int .i8 0, .int .i64 0, .int .i8 0, .int .i64 0] 51 (0, 0))
  r : W.heap[w.heap.size + 1 + 1]? = some (.cells #[.int .i8 f, .int .i64 d, .int .i8 g, .int .i64 e] 51 (0, 0))
variable {w W : World} {k l x f d g e : Int}
theorem Po.set (h : Po w k l x f d g e W) (j : Nat) (v : Value) {f' d' g' e' : Int} (he : (#[.int .i8 f, .int .i64 d, .int .i8 g, .int .i64 e] : Array Value).setIfInBounds j v = #[.int .i8 f', .int .i64 d', .int .i8 g', .int .i64 e']) : Po w k l x f' d' g' e' (W.setCell ⟨w.heap.size + 1 + 1, j, none⟩ v) := by
  refine ⟨h.below.setCell (p := ⟨w.heap.size + 1 + 1, j, none⟩) (by show w.heap.size ≤ w.heap.size + 1 + 1; omega) v, ?_, ?_, ?_⟩
  · rw [heap_setCell_other W _ _ v (by show w.heap.size ≠ w.heap.size + 1 + 1; omega)]; exact h.p
  · rw [heap_setCell_other W _ _ v (by show w.heap.size + 1 ≠ w.heap.size + 1 + 1; omega)]; exact h.z
  · rw [heap_setCell_same W _ j _ _ v h.r, he]
theorem Po.lo (h : Po w k l x f d g e W) (y z : Int) : Po w k l x y z g e ((W.setCell ⟨w.heap.size + 1 + 1, 0, none⟩ (.int .i8 y)).setCell ⟨w.heap.size + 1 + 1, 1, none⟩ (.int .i64 z)) :=
  (h.set 0 (.int .i8 y) (f' := y) (d' := d) (g' := g) (e' := e) rfl).set 1 (.int .i64 z) rfl
theorem Po.hi (h : Po w k l x f d g e W) (y z : Int) : Po w k l x f d y z ((W.setCell ⟨w.heap.size + 1 + 1, 2, none⟩ (.int .i8 y)).setCell ⟨w.heap.size + 1 + 1, 3, none⟩ (.int .i64 z)) :=
  (h.set 2 (.int .i8 y) (f' := f) (d' := d) (g' := y) (e' := e) rfl).set 3 (.int .i64 z) rfl
theorem Po.cells (h : Po w k l x f d g e W) : (W.cell? ⟨w.heap.size, 0, none⟩ = some (.int .u8 k) ∧ W.cell? ⟨w.heap.size, 1, none⟩ = some (.int .u8 l) ∧ W.cell? ⟨w.heap.size, 2, none⟩ = some (.int .i16 x)) ∧
    W.cell? ⟨w.heap.size + 1 + 1, 0, none⟩ = some (.int .i8 f) ∧ W.cell? ⟨w.heap.size + 1 + 1, 1, none⟩ = some (.int .i64 d) ∧ W.cell? ⟨w.heap.size + 1 + 1, 2, none⟩ = some (.int .i8 g) ∧ W.cell? ⟨w.heap.size + 1 + 1, 3, none⟩ = some (.int .i64 e) :=
  ⟨⟨by rw [cell_of_row W _ 0 _ _ _ h.p]; rfl, by rw [cell_of_row W _ 1 _ _ _ h.p]; rfl, by rw [cell_of_row W _ 2 _ _ _ h.p]; rfl⟩, by rw [cell_of_row W _ 0 _ _ _ h.r]; rfl, by rw [cell_of_row W _ 1 _ _ _ h.r]; rfl, by rw [cell_of_row W _ 2 _ _ _ h.r]; rfl, by rw [cell_of_row W _ 3 _ _ _ h.r]; rfl⟩
theorem Po.frozen (h : Po w k l x f d g e W) (j : Nat) : W.frozen? ⟨w.heap.size + 1 + 1, j, none⟩ = false := frozen_of_row W _ j _ _ h.r
theorem po_new (w : World) (k l x d e : Int) : Po w k l x 0 d 0 e (((w.alloc (.cells #[.int .u8 k, .int .u8 l, .int .i16 x] 49)).alloc (.cells #[.int .i8 0, .int .i64 0, .int .i8 0, .int .i64 0] 51)).alloc (.cells #[.int .i8 0, .int .i64 d, .int .i8 0, .int .i64 e] 51)) := by
  have e1 : (w.alloc (.cells #[.int .u8 k, .int .u8 l, .int .i16 x] 49)).heap[w.heap.size]? = some (.cells #[.int .u8 k, .int .u8 l, .int .i16 x] 49 (0, 0)) := heap_alloc_new _ _
  have s1 : (w.alloc (.cells #[.int .u8 k, .int .u8 l, .int .i16 x] 49)).heap.size = w.heap.size + 1 := by simp
  have b1 := (Below.refl w.heap.size w).alloc (Nat.le_refl _) (.cells #[.int .u8 k, .int .u8 l, .int .i16 x] 49)
  generalize w.alloc (.cells #[.int .u8 k, .int .u8 l, .int .i16 x] 49) = u at *
  have b2 := (Below.refl u.heap.size u).alloc (Nat.le_refl _) (.cells #[.int .i8 0, .int .i64 0, .int .i8 0, .int .i64 0] 51)
  have e2 : (u.alloc (.cells #[.int .i8 0, .int .i64 0, .int .i8 0, .int .i64 0] 51)).heap[w.heap.size + 1]? = some (.cells #[.int .i8 0, .int .i64 0, .int .i8 0, .int .i64 0] 51 (0, 0)) := by rw [← s1]; exact heap_alloc_new _ _
  have s2 : (u.alloc (.cells #[.int .i8 0, .int .i64 0, .int .i8 0, .int .i64 0] 51)).heap.size = w.heap.size + 1 + 1 := by simp [s1]
  have e3 : (u.alloc (.cells #[.int .i8 0, .int .i64 0, .int .i8 0, .int .i64 0] 51)).heap[w.heap.size]? = some (.cells #[.int .u8 k, .int .u8 l, .int .i16 x] 49 (0, 0)) := by rw [b2.block _ (by omega)]; exact e1
  have b3 := b1.trans (b2.mono b1.size)
  generalize u.alloc (.cells #[.int .i8 0, .int .i64 0, .int .i8 0, .int .i64 0] 51) = v at *
  have b4 := (Below.refl v.heap.size v).alloc (Nat.le_refl _) (.cells #[.int .i8 0, .int .i64 d, .int .i8 0, .int .i64 e] 51)
  exact ⟨b3.trans (b4.mono b3.size), by rw [b4.block _ (by omega)]; exact e3, by rw [b4.block _ (by omega)]; exact e2, by rw [← s2]; exact heap_alloc_new _ _⟩
set_option maxHeartbeats 4000000 in
theorem ofR_is {k l x m n : Int} (hm : k % 8 = m) (hn : l % 16 = n) (k0 : 0 ≤ k) (l0 : 0 ≤ l) (x0 : -32768 ≤ x) (x1 : x ≤ 32767) {v : Rn} (hv : ofR m n x = v) (w : World) :
    Calls Tryd.prog 26 #[.agg #[.int .u8 k, .int .u8 l, .int .i16 x]] w fun e w' => e = .returned (.agg #[.int .i8 v.f, .int .i64 v.d, .int .i8 v.g, .int .i64 v.e]) ∧ Below w.heap.size w w' := by
  obtain ⟨y, hy⟩ : ∃ y, x + n = y := ⟨_, rfl⟩
  have HP := Kp.mk (po_new w k l x x y)
  have w1 : IntKind.i64.wrap x = x := IntWalk.i64_in _ (by omega)
  have w2 : l.tmod 16 = n := by rw [Int.tmod_eq_emod_of_nonneg l0]; exact hn
  have w3 : IntKind.u8.wrap n = n := by simp [IntKind.wrap, IntKind.signed, IntKind.bits]; omega
  have w4 : IntKind.i64.wrap n = n := IntWalk.i64_in _ (by omega)
  have w5 : IntKind.i64.wrap (x + n) = y := by rw [hy]; exact IntWalk.i64_in _ (by omega)
  have w6 : k.tmod 8 = m := by rw [Int.tmod_eq_emod_of_nonneg k0]; exact hm
  have w7 : IntKind.u8.wrap m = m := by simp [IntKind.wrap, IntKind.signed, IntKind.bits]; omega
  have E := hv.symm
  unfold ofR at E
  rw [hy] at E
  clear hv
  by_cases h0 : m = 0
  · have t0 : (m == 0) = true := by rw [beq_iff_eq]; omega
    have t2 : (m == 2) = false := by rw [beq_eq_false_iff_ne]; omega
    have t1 : (m == 1) = false := by rw [beq_eq_false_iff_ne]; omega
    have E := Kp.mk (show v = ⟨(-1), 0, 0, y⟩ by rw [E]; simp only [show (m = 0 ∨ m = 2) = True from eq_true (.inl h0), show (m = 1 ∨ m = 2) = False from eq_false (by omega), if_true, if_false])
    clear hm hn k0 l0 x0 x1 hy
    go_enter Tryd.func26, Tryd.ntmps26
    go_upto_region 2 with fail
    generalize ((w.alloc (.cells #[.int .u8 k, .int .u8 l, .int .i16 x] 49)).alloc (.cells #[.int .i8 0, .int .i64 0, .int .i8 0, .int .i64 0] 51)).alloc (.cells #[.int .i8 0, .int .i64 x, .int .i8 0, .int .i64 y] 51) = w0 at *
    obtain ⟨⟨kp0, kp1, kp2⟩, kr0, kr1, kr2, kr3⟩ := HP.out.cells
    have fr0 := HP.out.frozen 0
    have fr1 := HP.out.frozen 1
    have fr2 := HP.out.frozen 2
    have fr3 := HP.out.frozen 3
    go_upto_region 4 with fail
    clear kp0 kp1 kp2 kr0 kr1 kr2 kr3 fr0 fr1 fr2 fr3
    have HP := Kp.mk (HP.out.lo (-1) 0)
    obtain ⟨⟨kp0, kp1, kp2⟩, kr0, kr1, kr2, kr3⟩ := HP.out.cells
    have fr0 := HP.out.frozen 0
    have fr1 := HP.out.frozen 1
    have fr2 := HP.out.frozen 2
    have fr3 := HP.out.frozen 3
    go_upto_region 6 with fail
    go_wp2_with (first
      | refine wpList_store_row' rfl 51 (.tmp 2) (.tmp 42) rfl (w.heap.size + 1) #[.int .i8 (-1), .int .i64 0, .int .i8 0, .int .i64 y] rfl rfl 51 #[.int .i8 0, .int .i64 0, .int .i8 0, .int .i64 0] HP.out.z infoRn rfl (four_rn _ _ _ _) ?_)
    refine bodyPost_ret (results_cell_row (p := 2) (ty := 51) rfl _ _ (w.heap.size + 1) 51 #[.int .i8 (-1), .int .i64 0, .int .i8 0, .int .i64 y] (0, 0) _ rfl (setRow_heap _ _ _ _ _ _ HP.out.z) Tryd.underlying51 rfl infoRn) rfl ?_
    exact ⟨by rw [E.out], below_setRow HP.out.below (Nat.le_add_right _ 1) _⟩
  · by_cases h1 : m = 1
    · have t0 : (m == 0) = false := by rw [beq_eq_false_iff_ne]; omega
      have t2 : (m == 2) = false := by rw [beq_eq_false_iff_ne]; omega
      have t1 : (m == 1) = true := by rw [beq_iff_eq]; omega
      have E := Kp.mk (show v = ⟨0, x, 1, 0⟩ by rw [E]; simp only [show (m = 0 ∨ m = 2) = False from eq_false (by omega), show (m = 1 ∨ m = 2) = True from eq_true (.inl h1), if_true, if_false])
      clear hm hn k0 l0 x0 x1 hy
      go_enter Tryd.func26, Tryd.ntmps26
      go_upto_region 2 with fail
      generalize ((w.alloc (.cells #[.int .u8 k, .int .u8 l, .int .i16 x] 49)).alloc (.cells #[.int .i8 0, .int .i64 0, .int .i8 0, .int .i64 0] 51)).alloc (.cells #[.int .i8 0, .int .i64 x, .int .i8 0, .int .i64 y] 51) = w0 at *
      obtain ⟨⟨kp0, kp1, kp2⟩, kr0, kr1, kr2, kr3⟩ := HP.out.cells
      have fr0 := HP.out.frozen 0
      have fr1 := HP.out.frozen 1
      have fr2 := HP.out.frozen 2
      have fr3 := HP.out.frozen 3
      go_upto_region 4 with fail
      go_upto_region 6 with fail
      clear kp0 kp1 kp2 kr0 kr1 kr2 kr3 fr0 fr1 fr2 fr3
      have HP := Kp.mk (HP.out.hi 1 0)
      obtain ⟨⟨kp0, kp1, kp2⟩, kr0, kr1, kr2, kr3⟩ := HP.out.cells
      have fr0 := HP.out.frozen 0
      have fr1 := HP.out.frozen 1
      have fr2 := HP.out.frozen 2
      have fr3 := HP.out.frozen 3
      go_wp2_with (first
        | refine wpList_store_row' rfl 51 (.tmp 2) (.tmp 42) rfl (w.heap.size + 1) #[.int .i8 0, .int .i64 x, .int .i8 1, .int .i64 0] rfl rfl 51 #[.int .i8 0, .int .i64 0, .int .i8 0, .int .i64 0] HP.out.z infoRn rfl (four_rn _ _ _ _) ?_)
      refine bodyPost_ret (results_cell_row (p := 2) (ty := 51) rfl _ _ (w.heap.size + 1) 51 #[.int .i8 0, .int .i64 x, .int .i8 1, .int .i64 0] (0, 0) _ rfl (setRow_heap _ _ _ _ _ _ HP.out.z) Tryd.underlying51 rfl infoRn) rfl ?_
      exact ⟨by rw [E.out], below_setRow HP.out.below (Nat.le_add_right _ 1) _⟩
    · by_cases h2 : m = 2
      · have t0 : (m == 0) = false := by rw [beq_eq_false_iff_ne]; omega
        have t2 : (m == 2) = true := by rw [beq_iff_eq]; omega
        have t1 : (m == 1) = false := by rw [beq_eq_false_iff_ne]; omega
        have E := Kp.mk (show v = ⟨(-1), 0, 1, 0⟩ by rw [E]; simp only [show (m = 0 ∨ m = 2) = True from eq_true (.inr h2), show (m = 1 ∨ m = 2) = True from eq_true (.inr h2), if_true])
        clear hm hn k0 l0 x0 x1 hy
        go_enter Tryd.func26, Tryd.ntmps26
        go_upto_region 2 with fail
        generalize ((w.alloc (.cells #[.int .u8 k, .int .u8 l, .int .i16 x] 49)).alloc (.cells #[.int .i8 0, .int .i64 0, .int .i8 0, .int .i64 0] 51)).alloc (.cells #[.int .i8 0, .int .i64 x, .int .i8 0, .int .i64 y] 51) = w0 at *
        obtain ⟨⟨kp0, kp1, kp2⟩, kr0, kr1, kr2, kr3⟩ := HP.out.cells
        have fr0 := HP.out.frozen 0
        have fr1 := HP.out.frozen 1
        have fr2 := HP.out.frozen 2
        have fr3 := HP.out.frozen 3
        go_upto_region 4 with fail
        clear kp0 kp1 kp2 kr0 kr1 kr2 kr3 fr0 fr1 fr2 fr3
        have HP := Kp.mk (HP.out.lo (-1) 0)
        obtain ⟨⟨kp0, kp1, kp2⟩, kr0, kr1, kr2, kr3⟩ := HP.out.cells
        have fr0 := HP.out.frozen 0
        have fr1 := HP.out.frozen 1
        have fr2 := HP.out.frozen 2
        have fr3 := HP.out.frozen 3
        go_upto_region 6 with fail
        clear kp0 kp1 kp2 kr0 kr1 kr2 kr3 fr0 fr1 fr2 fr3
        have HP := Kp.mk (HP.out.hi 1 0)
        obtain ⟨⟨kp0, kp1, kp2⟩, kr0, kr1, kr2, kr3⟩ := HP.out.cells
        have fr0 := HP.out.frozen 0
        have fr1 := HP.out.frozen 1
        have fr2 := HP.out.frozen 2
        have fr3 := HP.out.frozen 3
        go_wp2_with (first
          | refine wpList_store_row' rfl 51 (.tmp 2) (.tmp 42) rfl (w.heap.size + 1) #[.int .i8 (-1), .int .i64 0, .int .i8 1, .int .i64 0] rfl rfl 51 #[.int .i8 0, .int .i64 0, .int .i8 0, .int .i64 0] HP.out.z infoRn rfl (four_rn _ _ _ _) ?_)
        refine bodyPost_ret (results_cell_row (p := 2) (ty := 51) rfl _ _ (w.heap.size + 1) 51 #[.int .i8 (-1), .int .i64 0, .int .i8 1, .int .i64 0] (0, 0) _ rfl (setRow_heap _ _ _ _ _ _ HP.out.z) Tryd.underlying51 rfl infoRn) rfl ?_
        exact ⟨by rw [E.out], below_setRow HP.out.below (Nat.le_add_right _ 1) _⟩
      · have t0 : (m == 0) = false := by rw [beq_eq_false_iff_ne]; omega
        have t2 : (m == 2) = false := by rw [beq_eq_false_iff_ne]; omega
        have t1 : (m == 1) = false := by rw [beq_eq_false_iff_ne]; omega
        have E := Kp.mk (show v = ⟨0, x, 0, y⟩ by rw [E]; simp only [show (m = 0 ∨ m = 2) = False from eq_false (by omega), show (m = 1 ∨ m = 2) = False from eq_false (by omega), if_false])
        clear hm hn k0 l0 x0 x1 hy
        go_enter Tryd.func26, Tryd.ntmps26
        go_upto_region 2 with fail
        generalize ((w.alloc (.cells #[.int .u8 k, .int .u8 l, .int .i16 x] 49)).alloc (.cells #[.int .i8 0, .int .i64 0, .int .i8 0, .int .i64 0] 51)).alloc (.cells #[.int .i8 0, .int .i64 x, .int .i8 0, .int .i64 y] 51) = w0 at *
        obtain ⟨⟨kp0, kp1, kp2⟩, kr0, kr1, kr2, kr3⟩ := HP.out.cells
        have fr0 := HP.out.frozen 0
        have fr1 := HP.out.frozen 1
        have fr2 := HP.out.frozen 2
        have fr3 := HP.out.frozen 3
        go_upto_region 4 with fail
        go_upto_region 6 with fail
        go_wp2_with (first
          | refine wpList_store_row' rfl 51 (.tmp 2) (.tmp 42) rfl (w.heap.size + 1) #[.int .i8 0, .int .i64 x, .int .i8 0, .int .i64 y] rfl rfl 51 #[.int .i8 0, .int .i64 0, .int .i8 0, .int .i64 0] HP.out.z infoRn rfl (four_rn _ _ _ _) ?_)
        refine bodyPost_ret (results_cell_row (p := 2) (ty := 51) rfl _ _ (w.heap.size + 1) 51 #[.int .i8 0, .int .i64 x, .int .i8 0, .int .i64 y] (0, 0) _ rfl (setRow_heap _ _ _ _ _ _ HP.out.z) Tryd.underlying51 rfl infoRn) rfl ?_
        exact ⟨by rw [E.out], below_setRow HP.out.below (Nat.le_add_right _ 1) _⟩
end Go.Proofs.YteddfolhpoikcaaDoor
