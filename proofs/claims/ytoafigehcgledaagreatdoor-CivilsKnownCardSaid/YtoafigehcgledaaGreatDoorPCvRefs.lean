/-
  DERIVED. CONTRACTS of the reference of layer 6 (civils): Check, Day, Of, Weekday, Compare.
-/
import Derived.Test.YtoafigehcgledaaGreatDoorPRf
import Derived.Test.YtoafigehcgledaaGreatDoorPPa
import Derived.Test.YtoafigehcgledaaGreatDoorPPb
import Derived.BigQuiet
import Derived.WalkSmall
import Derived.Deep.Cut
import Derived.Laws.Rows
import Derived.Laws.Tables
import Derived.Laws.CopyOwn
namespace Go.Proofs.YtoafigehcgledaaGreatDoor
open Go.RowKit

/-- a civil day, as every world of a walk has it -/
structure Cv (w : World) (g : Nat) (y m d : Int) (W : World) : Prop where
  below : Below w.heap.size w W
  size : g < W.heap.size
  c0 : W.cell? ⟨g, 0, none⟩ = some (.int .i64 y)
  c1 : W.cell? ⟨g, 1, none⟩ = some (.int .i64 m)
  c2 : W.cell? ⟨g, 2, none⟩ = some (.int .i64 d)
  f0 : W.frozen? ⟨g, 0, none⟩ = false
  f1 : W.frozen? ⟨g, 1, none⟩ = false
  f2 : W.frozen? ⟨g, 2, none⟩ = false
theorem Cv.step {w W W' : World} {g : Nat} {y m d : Int} (h : Cv w g y m d W) (hb : Below W.heap.size W W') : Cv w g y m d W' :=
  ⟨h.below.trans (hb.mono h.below.size), by have := hb.size; have := h.size; omega, by rw [hb.cell (p := ⟨g, 0, none⟩) h.size]; exact h.c0, by rw [hb.cell (p := ⟨g, 1, none⟩) h.size]; exact h.c1,
   by rw [hb.cell (p := ⟨g, 2, none⟩) h.size]; exact h.c2, by rw [hb.frozen (p := ⟨g, 0, none⟩) h.size]; exact h.f0, by rw [hb.frozen (p := ⟨g, 1, none⟩) h.size]; exact h.f1, by rw [hb.frozen (p := ⟨g, 2, none⟩) h.size]; exact h.f2⟩
theorem Cv.drewN {w W : World} {g : Nat} {y m d : Int} (h : Cv w g y m d W) (q : Nat) : Cv w g y m d (W.drewN q) := h.step (below_drewN (Below.refl _ _) q)
theorem cv_new {w W : World} (y m d : Int) (t : TypeId) (hb : Below w.heap.size w W) : Cv w W.heap.size y m d (W.alloc (.cells #[.int .i64 y, .int .i64 m, .int .i64 d] t)) :=
  ⟨hb.alloc hb.size _, by simp, by rw [World.cell?_alloc_new]; rfl, by rw [World.cell?_alloc_new]; rfl, by rw [World.cell?_alloc_new]; rfl, by simp [go_sem], by simp [go_sem], by simp [go_sem]⟩
/-- a whole struct stored into a block of the walk's own -/
def World.set3 (W : World) (g : Nat) (a b c : Int) : World := ((W.setCell ⟨g, 0, none⟩ (.int .i64 a)).setCell ⟨g, 1, none⟩ (.int .i64 b)).setCell ⟨g, 2, none⟩ (.int .i64 c)
theorem below_set3 {w W : World} {g : Nat} (h : Below w.heap.size w W) (hg : w.heap.size ≤ g) (a b c : Int) : Below w.heap.size w (World.set3 W g a b c) :=
  ((h.setCell (p := ⟨g, 0, none⟩) hg _).setCell (p := ⟨g, 1, none⟩) hg _).setCell (p := ⟨g, 2, none⟩) hg _
theorem addr_ne {g k i j : Nat} (h : ¬ (g = k ∧ i = j)) : (⟨g, i, none⟩ : Addr) ≠ ⟨k, j, none⟩ := fun e => h (by cases e; exact ⟨rfl, rfl⟩)
theorem size_set3 (W : World) (g : Nat) (a b c : Int) : (World.set3 W g a b c).heap.size = W.heap.size := by simp [World.set3, World.setCell]
theorem frozen_set3 (W : World) (g : Nat) (a b c : Int) (p : Addr) : (World.set3 W g a b c).frozen? p = W.frozen? p := by unfold World.set3; rw [World.frozen?_setCell, World.frozen?_setCell, World.frozen?_setCell]
theorem cell_set3 (W : World) {g k : Nat} (a b c : Int) (j : Nat) (h : ¬ k = g) : (World.set3 W g a b c).cell? ⟨k, j, none⟩ = W.cell? ⟨k, j, none⟩ := by
  unfold World.set3
  rw [World.cell?_setCell_other _ _ _ _ (addr_ne (fun e => h e.1.symm)), World.cell?_setCell_other _ _ _ _ (addr_ne (fun e => h e.1.symm)), World.cell?_setCell_other _ _ _ _ (addr_ne (fun e => h e.1.symm))]
theorem Cv.set {w W : World} {g : Nat} {y m d : Int} (h : Cv w g y m d W) (hg : w.heap.size ≤ g) (a b c : Int) : Cv w g a b c (World.set3 W g a b c) := by
  refine ⟨below_set3 h.below hg a b c, by rw [size_set3]; exact h.size, ?_, ?_, ?_, by rw [frozen_set3]; exact h.f0, by rw [frozen_set3]; exact h.f1, by rw [frozen_set3]; exact h.f2⟩ <;> unfold World.set3
  · rw [World.cell?_setCell_other _ _ _ _ (addr_ne (by simp)), World.cell?_setCell_other _ _ _ _ (addr_ne (by simp)), World.cell?_setCell_same _ _ _ h.c0]
  · rw [World.cell?_setCell_other _ _ _ _ (addr_ne (by simp)), World.cell?_setCell_same _ _ _ (u := .int .i64 m) (by rw [World.cell?_setCell_other _ _ _ _ (addr_ne (by simp))]; exact h.c1)]
  · rw [World.cell?_setCell_same _ _ _ (u := .int .i64 d) (by rw [World.cell?_setCell_other _ _ _ _ (addr_ne (by simp)), World.cell?_setCell_other _ _ _ _ (addr_ne (by simp))]; exact h.c2)]
theorem Cv.other {w W : World} {g k : Nat} {y m d : Int} (h : Cv w g y m d W) (hk : ¬ g = k) (hg : w.heap.size ≤ k) (a b c : Int) : Cv w g y m d (World.set3 W k a b c) :=
  ⟨below_set3 h.below hg a b c, by rw [size_set3]; exact h.size, by rw [cell_set3 W a b c 0 hk]; exact h.c0, by rw [cell_set3 W a b c 1 hk]; exact h.c1, by rw [cell_set3 W a b c 2 hk]; exact h.c2,
   by rw [frozen_set3]; exact h.f0, by rw [frozen_set3]; exact h.f1, by rw [frozen_set3]; exact h.f2⟩
theorem Cv.bl {w W : World} {g : Nat} {y m d : Int} (h : Cv w g y m d W) : Bl w W := ⟨h.below⟩
set_option maxHeartbeats 1000000 in
theorem refCChk_is {y m d c : Int} (w : World) (hc : chkC y m d = c) :
    Calls Tryz.prog 10 #[.agg #[.int .i64 y, .int .i64 m, .int .i64 d]] w fun e w' => e = .returned (.int .i64 c) ∧ Below w.heap.size w w' := by
  have HB := Kp.mk (cv_new y m d 23 (Below.refl w.heap.size w))
  obtain ⟨a, ha⟩ : ∃ a, chkM y m = a := ⟨_, rfl⟩
  have r1 := Kp.mk (fun w => refChk_is w ha)
  unfold chkC at hc
  rw [ha] at hc
  by_cases h0 : a = 0
  · subst h0
    rw [if_pos rfl] at hc
    obtain ⟨l, hl⟩ : ∃ l, lenM y m = l := ⟨_, rfl⟩
    have r2 : Kp (∀ w, Calls Tryz.prog 35 #[.int .i64 y, .int .i64 m] w fun e w' => e = .returned (.int .i64 l) ∧ w' = w) := Kp.mk (fun w => (refMLen_is w hl).mono fun _ _ h => ⟨h.1, h.2.symm⟩)
    rw [hl] at hc
    have HC := Kp.mk hc
    clear hc ha hl
    go_enter Tryz.func10, Tryz.ntmps10
    go_upto_region 1 with fail
    generalize w.alloc (.cells #[.int .i64 y, .int .i64 m, .int .i64 d] 23) = w0 at *
    have c0 := HB.out.c0
    have c1 := HB.out.c1
    have c2 := HB.out.c2
    go_wp2_with fail
    refine (r1.out _).mono ?_
    rintro e w' ⟨rfl, rfl⟩
    by_cases h1 : d < 1
    · go_upto_region 4 with fail
      go_quiet (fail)
      generalize hwq : World.drewN w0 _ = wq
      have HB := Kp.mk (show Cv w w.heap.size y m d wq by rw [← hwq]; exact HB.out.drewN _)
      clear hwq
      go_wp2_with fail
      go_ret
      exact ⟨by rw [← HC.out, if_neg (by omega)]; rfl, HB.out.below⟩
    · by_cases h2 : l < d
      · go_upto_region 4 with fail
        go_quiet ((go_at_call 35; with_reducible exact Calls.quiet_of_same (r2.out _)))
        generalize hwq : World.drewN w0 _ = wq
        have HB := Kp.mk (show Cv w w.heap.size y m d wq by rw [← hwq]; exact HB.out.drewN _)
        clear hwq
        go_wp2_with fail
        go_ret
        exact ⟨by rw [← HC.out, if_neg (by omega)]; rfl, HB.out.below⟩
      · go_upto_region 4 with fail
        go_quiet ((go_at_call 35; with_reducible exact Calls.quiet_of_same (r2.out _)))
        generalize hwq : World.drewN w0 _ = wq
        have HB := Kp.mk (show Cv w w.heap.size y m d wq by rw [← hwq]; exact HB.out.drewN _)
        clear hwq
        go_wp2_with fail
        go_ret
        exact ⟨by rw [← HC.out, if_pos (by omega)]; rfl, HB.out.below⟩
  · rw [if_neg h0] at hc
    subst hc
    have t : (a != 0) = true := by rw [bne_iff_ne]; exact h0
    clear ha h0
    go_enter Tryz.func10, Tryz.ntmps10
    go_upto_region 1 with fail
    generalize w.alloc (.cells #[.int .i64 y, .int .i64 m, .int .i64 d] 23) = w0 at *
    have c0 := HB.out.c0
    have c1 := HB.out.c1
    have c2 := HB.out.c2
    go_wp2_with fail
    refine (r1.out _).mono ?_
    rintro e w' ⟨rfl, rfl⟩
    go_wp2_with fail
    go_ret
    exact ⟨rfl, HB.out.below⟩
set_option maxHeartbeats 1000000 in
theorem refCDay_is {y m d v : Int} (w : World) (h : Right y m d) (hv : Dc y m d = v) :
    Calls Tryz.prog 15 #[.agg #[.int .i64 y, .int .i64 m, .int .i64 d]] w fun e w' => e = .returned (.int .i64 v) ∧ Below w.heap.size w w' := by
  have HB := Kp.mk (cv_new y m d 23 (Below.refl w.heap.size w))
  obtain ⟨s, hs⟩ : ∃ s, Sm y m = s := ⟨_, rfl⟩
  have r1 : Kp (∀ w, Calls Tryz.prog 39 #[.int .i64 y, .int .i64 m] w fun e w' => e = .returned (.int .i64 s) ∧ w' = w) := Kp.mk (fun w => (refMStart_is w h.yr h.m0 h.m1 hs).mono fun _ _ h => ⟨h.1, h.2.symm⟩)
  have hin := Sm_in (y := y) h.m0 (show m ≤ 13 by have := h.m1; omega)
  have hsi := Sd_in h.yr
  have hll := lenM_in y m
  have hd0 := h.d0
  have hd1 := h.d1
  unfold Dc at hv
  rw [hs] at hv hin
  have w1 : IntKind.i64.wrap (d - 1) = d - 1 := IntWalk.i64_in _ (by omega)
  have w2 : IntKind.i64.wrap (s + (d - 1)) = v := by rw [hv]; exact IntWalk.i64_in _ (by omega)
  clear hv hs hin hsi hll hd0 hd1 h
  go_enter Tryz.func15, Tryz.ntmps15
  go_upto_region 1 with fail
  generalize w.alloc (.cells #[.int .i64 y, .int .i64 m, .int .i64 d] 23) = w0 at *
  have c0 := HB.out.c0
  have c1 := HB.out.c1
  have c2 := HB.out.c2
  go_quiet ((go_at_call 39; with_reducible exact Calls.quiet_of_same (r1.out _)))
  generalize hwq : World.drewN w0 _ = wq
  have HB := Kp.mk (show Cv w w.heap.size y m d wq by rw [← hwq]; exact HB.out.drewN _)
  clear hwq
  go_wp2_with fail
  go_ret
  exact ⟨rfl, HB.out.below⟩
theorem infoCv : (Tryz.prog.info? 23).map (·.size) = some 3 := by kernel_rfl
set_option maxHeartbeats 1000000 in
theorem refCOf_is {n y m : Int} (w : World) (hy : isY y = true) (h : MonthHas y m n) :
    Calls Tryz.prog 24 #[.int .i64 n] w fun e w' => e = .returned (.agg #[.int .i64 y, .int .i64 m, .int .i64 (n - Sm y m + 1)]) ∧ Below w.heap.size w w' := by
  have r1 := Kp.mk (fun w => refMOf_is w hy h)
  obtain ⟨s, hs⟩ : ∃ s, Sm y m = s := ⟨_, rfl⟩
  have r2 := Kp.mk (fun w => refMStart_is w hy h.m0 h.m1 hs)
  have hsu := Sm_succ (y := y) h.m0 h.m1
  have hll := lenM_in y m
  have h3 := h.lo
  have h4 := h.hi
  rw [hs] at hsu h3 ⊢
  have w1 : IntKind.i64.wrap (n - s) = n - s := IntWalk.i64_in _ (by omega)
  have w2 : IntKind.i64.wrap (n - s + 1) = n - s + 1 := IntWalk.i64_in _ (by omega)
  clear hsu hll h3 h4 hs h hy
  go_enter Tryz.func24, Tryz.ntmps24
  go_wp2_with fail
  refine (r1.out _).mono ?_
  rintro e w' ⟨rfl, rfl⟩
  go_wp2_with fail
  refine (r2.out _).mono ?_
  rintro e w' ⟨rfl, rfl⟩
  go_wp2_with fail
  refine bodyPost_ret (results_cell_row (p := 2) (ty := 23) rfl _ _ w.heap.size 23 #[.int .i64 y, .int .i64 m, .int .i64 (n - s + 1)] (0, 0) _ rfl (heap_alloc_new _ _) Tryz.underlying23 rfl infoCv) rfl ?_
  exact ⟨rfl, (Below.refl w.heap.size w).alloc (Nat.le_refl _) _⟩
set_option maxHeartbeats 1000000 in
theorem refWday_is {n v : Int} (w : World) (hv : wday n = v) :
    Calls Tryz.prog 21 #[.int .i64 n] w fun e w' => e = .returned (.int .i64 v) ∧ w = w' := by
  obtain ⟨r, hr⟩ : ∃ r, Int.tmod n 7 = r := ⟨_, rfl⟩
  have hrb := (rem_zero (a := n) (k := 7) (by decide)).2
  have hre : (r + 5) % 7 = v := by
    rw [← hv, ← hr, tmod_of (by decide)]
    unfold wday
    split <;> omega
  rw [hr] at hrb
  have w1 : IntKind.i64.wrap r = r := IntWalk.i64_in _ (by omega)
  have HV := Kp.mk hre
  clear hv hre
  go_enter Tryz.func21, Tryz.ntmps21
  go_wp2_with fail
  go_loop [3, 4] (fun l x => ∃ a b : Int, -7 < a ∧ a < 7 ∧ 0 ≤ b ∧ b < 7 ∧ l = .int .i64 a ∧ x = .int .i64 b ∧ Kp ((a + b) % 7 = v)) (fun l _ => (intOf l).toNat)
  case atStart => exact ⟨r, 5, hrb.1, hrb.2, by omega, by omega, rfl, rfl, HV⟩
  case round =>
    obtain ⟨a, b, ha0, ha1, hb0, hb1, rfl, rfl, HK⟩ := hrel
    by_cases hlt : 0 < a
    · have w2 : IntKind.i64.wrap (b + 1) = b + 1 := IntWalk.i64_in _ (by omega)
      have w3 : IntKind.i64.wrap (a - 1) = a - 1 := IntWalk.i64_in _ (by omega)
      by_cases h7 : b = 6
      · have t : (b + 1 == 7) = true := by rw [beq_iff_eq]; omega
        have HK2 := Kp.mk (show ((a - 1) + 0) % 7 = v by have := HK.out; omega)
        clear h7
        go_wp2_with fail
        go_round
        case rel => exact ⟨a - 1, 0, by omega, by omega, by omega, by omega, rfl, rfl, HK2⟩
        case measure => simp [intOf]; omega
      · have t : (b + 1 == 7) = false := by rw [beq_eq_false_iff_ne]; omega
        have HK2 := Kp.mk (show ((a - 1) + (b + 1)) % 7 = v by have := HK.out; omega)
        have hb2 : b + 1 < 7 := by omega
        clear h7
        go_wp2_with fail
        go_round
        case rel => exact ⟨a - 1, b + 1, by omega, by omega, by omega, by omega, rfl, rfl, HK2⟩
        case measure => simp [intOf]; omega
    · go_wp2_with fail
      go_loop [3, 4] (fun l x => ∃ a b : Int, -7 < a ∧ a ≤ 0 ∧ 0 ≤ b ∧ b < 7 ∧ l = .int .i64 a ∧ x = .int .i64 b ∧ Kp ((a + b) % 7 = v)) (fun l _ => (0 - intOf l).toNat)
      case atStart => exact ⟨a, b, by omega, by omega, by omega, by omega, rfl, rfl, HK⟩
      case round =>
        obtain ⟨a, b, ha0, ha1, hb0, hb1, rfl, rfl, HK⟩ := hrel
        by_cases hlt2 : a < 0
        · have w2 : IntKind.i64.wrap (b - 1) = b - 1 := IntWalk.i64_in _ (by omega)
          have w3 : IntKind.i64.wrap (a + 1) = a + 1 := IntWalk.i64_in _ (by omega)
          by_cases h7 : b = 0
          · have t : b - 1 < 0 := by omega
            have HK2 := Kp.mk (show ((a + 1) + 6) % 7 = v by have := HK.out; omega)
            clear h7
            go_wp2_with fail
            go_round
            case rel => exact ⟨a + 1, 6, by omega, by omega, by omega, by omega, rfl, rfl, HK2⟩
            case measure => simp [intOf]; omega
          · have t : ¬ b - 1 < 0 := by omega
            have HK2 := Kp.mk (show ((a + 1) + (b - 1)) % 7 = v by have := HK.out; omega)
            clear h7
            go_wp2_with fail
            go_round
            case rel => exact ⟨a + 1, b - 1, by omega, by omega, by omega, by omega, rfl, rfl, HK2⟩
            case measure => simp [intOf]; omega
        · obtain rfl : a = 0 := by omega
          have hb : b = v := by have := HK.out; omega
          subst hb
          go_wp2_with fail
          go_ret
          exact ⟨rfl, rfl⟩
theorem cmpI_eq (a b : Int) : cmpI a b = 0 ↔ a = b := by
  rcases cmpI_cases a b with h | h | h <;> rw [h.2] <;> simp <;> omega
set_option maxRecDepth 100000 in
set_option maxHeartbeats 2000000 in
theorem refCCmp_is {a b c x y z v : Int} (w : World) (hv : cmpC a b c x y z = v) :
    Calls Tryz.prog 26 #[.agg #[.int .i64 a, .int .i64 b, .int .i64 c], .agg #[.int .i64 x, .int .i64 y, .int .i64 z]] w fun e w' => e = .returned (.int .i64 v) ∧ Below w.heap.size w w' := by
  have HVAL := Kp.mk hv
  clear hv
  have h1 := cv_new a b c 23 (Below.refl w.heap.size w)
  have h2 := cv_new x y z 23 h1.below
  rw [World.size_alloc] at h2
  have h1' := h1.step ((Below.refl (w.alloc (.cells #[.int .i64 a, .int .i64 b, .int .i64 c] 23)).heap.size _).alloc (Nat.le_refl _) (.cells #[.int .i64 x, .int .i64 y, .int .i64 z] 23))
  have H12 := Kp.mk (And.intro h1' h2)
  clear h1 h2 h1'
  go_enter Tryz.func26, Tryz.ntmps26
  go_upto_region 1 with fail
  generalize hw0 : (w.alloc (.cells #[.int .i64 a, .int .i64 b, .int .i64 c] 23)).alloc (.cells #[.int .i64 x, .int .i64 y, .int .i64 z] 23) = w0 at *
  clear hw0
  have a0 := H12.out.1.c0
  have a1 := H12.out.1.c1
  have a2 := H12.out.1.c2
  have x0 := H12.out.2.c0
  have x1 := H12.out.2.c1
  have x2 := H12.out.2.c2
  have s0 := H12.out.2.size
  go_wp2_with fail
  have HT : Kp (Nums w w0.heap.size [a, b, c] ((w0.alloc (.cells #[.int .i64 a, .int .i64 b, .int .i64 c] 2)).alloc (.cells #[.int .i64 x, .int .i64 y, .int .i64 z] 2)) ∧ Nums w (w0.heap.size + 1) [x, y, z] ((w0.alloc (.cells #[.int .i64 a, .int .i64 b, .int .i64 c] 2)).alloc (.cells #[.int .i64 x, .int .i64 y, .int .i64 z] 2))) := Kp.mk (by
    have n1 := nums_new [a, b, c] 2 H12.out.1.below
    have n2 := nums_new [x, y, z] 2 n1.below
    rw [World.size_alloc] at n2
    exact ⟨n1.step ((Below.refl _ _).alloc (Nat.le_refl _) _), n2⟩)
  generalize (w0.alloc (.cells #[.int .i64 a, .int .i64 b, .int .i64 c] 2)).alloc (.cells #[.int .i64 x, .int .i64 y, .int .i64 z] 2) = w2 at *
  clear a0 a1 a2 x0 x1 x2 s0 H12
  generalize w0.heap.size + 1 = gy at *
  generalize w0.heap.size = gx at *
  go_loopw [7] (fun i wr => ∃ k : Nat, k ≤ 3 ∧ i = .int .i64 k ∧ Kp ((k ≥ 1 → a = x) ∧ (k ≥ 2 → b = y) ∧ (k ≥ 3 → c = z)) ∧ Kp (Nums w gx [a, b, c] wr ∧ Nums w gy [x, y, z] wr)) (fun i _ => 3 - (intOf i).toNat)
  case atStart => exact ⟨0, by omega, rfl, Kp.mk (by omega), HT⟩
  case round =>
    obtain ⟨k, hk, rfl, HK, HW⟩ := hrel
    by_cases hlt : k < 3
    · rcases (show k = 0 ∨ k = 1 ∨ k = 2 by omega) with rfl | rfl | rfl
      · have hcx := (HW.out.1.ints 0 (by simp))
        have hcy := (HW.out.2.ints 0 (by simp))
        have c1 : wr.cell? ⟨gx, 0, none⟩ = some (Value.int .i64 a) := hcx
        have c2 : wr.cell? ⟨gy, 0, none⟩ = some (Value.int .i64 x) := hcy
        clear hcx hcy hlt hk
        rcases cmpI_cases a x with ⟨hl, hv⟩ | ⟨he, hv⟩ | ⟨hg, hv⟩
        · have HV := Kp.mk (show cmpC a b c x y z = -1 by have := HK.out; unfold cmpC; rw [hv]; rfl)
          clear hv
          go_upto_region 6 with fail
          go_quiet (fail)
          generalize hwq : World.drewN wr _ = wq
          have HW := Kp.mk (show Nums w gx [a, b, c] wq ∧ Nums w gy [x, y, z] wq by rw [← hwq]; exact ⟨HW.out.1.step (below_drewN (Below.refl _ _) _), HW.out.2.step (below_drewN (Below.refl _ _) _)⟩)
          clear hwq
          go_wp2_with fail
          go_ret
          exact ⟨by rw [← HVAL.out, HV.out]; rfl, HW.out.1.below⟩
        · have HK2 := Kp.mk (show (0 + 1 ≥ 1 → a = x) ∧ (0 + 1 ≥ 2 → b = y) ∧ (0 + 1 ≥ 3 → c = z) by have := HK.out; omega)
          have nl : ¬ a < x := by omega
          have ng : ¬ x < a := by omega
          clear hv he
          go_upto_region 6 with fail
          go_quiet (fail)
          generalize hwp : World.drewN wr _ = wp
          have HW := Kp.mk (show Nums w gx [a, b, c] wp ∧ Nums w gy [x, y, z] wp by rw [← hwp]; exact ⟨HW.out.1.step (below_drewN (Below.refl _ _) _), HW.out.2.step (below_drewN (Below.refl _ _) _)⟩)
          clear hwp
          have c1 : wp.cell? ⟨gx, 0, none⟩ = some (Value.int .i64 a) := (HW.out.1.ints 0 (by simp))
          have c2 : wp.cell? ⟨gy, 0, none⟩ = some (Value.int .i64 x) := (HW.out.2.ints 0 (by simp))
          go_upto_region 8 with fail
          go_quiet (fail)
          generalize hwq : World.drewN wp _ = wq
          have HW := Kp.mk (show Nums w gx [a, b, c] wq ∧ Nums w gy [x, y, z] wq by rw [← hwq]; exact ⟨HW.out.1.step (below_drewN (Below.refl _ _) _), HW.out.2.step (below_drewN (Below.refl _ _) _)⟩)
          clear hwq
          go_wp2_with fail
          go_roundw
          case rel =>
            first
              | exact ⟨1, by omega, rfl, HK2, HW⟩
              | ((repeat apply Exists.intro); exact ⟨⟨1, by omega, rfl, HK2, HW⟩, rfl⟩)
          case measure => simp [intOf]
        · have HV := Kp.mk (show cmpC a b c x y z = 1 by have := HK.out; unfold cmpC; rw [hv]; rfl)
          have nl : ¬ a < x := by omega
          clear hv
          go_upto_region 6 with fail
          go_quiet (fail)
          generalize hwp : World.drewN wr _ = wp
          have HW := Kp.mk (show Nums w gx [a, b, c] wp ∧ Nums w gy [x, y, z] wp by rw [← hwp]; exact ⟨HW.out.1.step (below_drewN (Below.refl _ _) _), HW.out.2.step (below_drewN (Below.refl _ _) _)⟩)
          clear hwp
          have c1 : wp.cell? ⟨gx, 0, none⟩ = some (Value.int .i64 a) := (HW.out.1.ints 0 (by simp))
          have c2 : wp.cell? ⟨gy, 0, none⟩ = some (Value.int .i64 x) := (HW.out.2.ints 0 (by simp))
          go_upto_region 8 with fail
          go_quiet (fail)
          generalize hwq : World.drewN wp _ = wq
          have HW := Kp.mk (show Nums w gx [a, b, c] wq ∧ Nums w gy [x, y, z] wq by rw [← hwq]; exact ⟨HW.out.1.step (below_drewN (Below.refl _ _) _), HW.out.2.step (below_drewN (Below.refl _ _) _)⟩)
          clear hwq
          go_wp2_with fail
          go_ret
          exact ⟨by rw [← HVAL.out, HV.out]; rfl, HW.out.1.below⟩
      · have hcx := (HW.out.1.ints 1 (by simp))
        have hcy := (HW.out.2.ints 1 (by simp))
        have c1 : wr.cell? ⟨gx, 1, none⟩ = some (Value.int .i64 b) := hcx
        have c2 : wr.cell? ⟨gy, 1, none⟩ = some (Value.int .i64 y) := hcy
        clear hcx hcy hlt hk
        rcases cmpI_cases b y with ⟨hl, hv⟩ | ⟨he, hv⟩ | ⟨hg, hv⟩
        · have HV := Kp.mk (show cmpC a b c x y z = -1 by have := HK.out; unfold cmpC; rw [show cmpI a x = 0 by rw [cmpI_eq]; omega, hv]; rfl)
          clear hv
          go_upto_region 6 with fail
          go_quiet (fail)
          generalize hwq : World.drewN wr _ = wq
          have HW := Kp.mk (show Nums w gx [a, b, c] wq ∧ Nums w gy [x, y, z] wq by rw [← hwq]; exact ⟨HW.out.1.step (below_drewN (Below.refl _ _) _), HW.out.2.step (below_drewN (Below.refl _ _) _)⟩)
          clear hwq
          go_wp2_with fail
          go_ret
          exact ⟨by rw [← HVAL.out, HV.out]; rfl, HW.out.1.below⟩
        · have HK2 := Kp.mk (show (1 + 1 ≥ 1 → a = x) ∧ (1 + 1 ≥ 2 → b = y) ∧ (1 + 1 ≥ 3 → c = z) by have := HK.out; omega)
          have nl : ¬ b < y := by omega
          have ng : ¬ y < b := by omega
          clear hv he
          go_upto_region 6 with fail
          go_quiet (fail)
          generalize hwp : World.drewN wr _ = wp
          have HW := Kp.mk (show Nums w gx [a, b, c] wp ∧ Nums w gy [x, y, z] wp by rw [← hwp]; exact ⟨HW.out.1.step (below_drewN (Below.refl _ _) _), HW.out.2.step (below_drewN (Below.refl _ _) _)⟩)
          clear hwp
          have c1 : wp.cell? ⟨gx, 1, none⟩ = some (Value.int .i64 b) := (HW.out.1.ints 1 (by simp))
          have c2 : wp.cell? ⟨gy, 1, none⟩ = some (Value.int .i64 y) := (HW.out.2.ints 1 (by simp))
          go_upto_region 8 with fail
          go_quiet (fail)
          generalize hwq : World.drewN wp _ = wq
          have HW := Kp.mk (show Nums w gx [a, b, c] wq ∧ Nums w gy [x, y, z] wq by rw [← hwq]; exact ⟨HW.out.1.step (below_drewN (Below.refl _ _) _), HW.out.2.step (below_drewN (Below.refl _ _) _)⟩)
          clear hwq
          go_wp2_with fail
          go_roundw
          case rel =>
            first
              | exact ⟨2, by omega, rfl, HK2, HW⟩
              | ((repeat apply Exists.intro); exact ⟨⟨2, by omega, rfl, HK2, HW⟩, rfl⟩)
          case measure => simp [intOf]
        · have HV := Kp.mk (show cmpC a b c x y z = 1 by have := HK.out; unfold cmpC; rw [show cmpI a x = 0 by rw [cmpI_eq]; omega, hv]; rfl)
          have nl : ¬ b < y := by omega
          clear hv
          go_upto_region 6 with fail
          go_quiet (fail)
          generalize hwp : World.drewN wr _ = wp
          have HW := Kp.mk (show Nums w gx [a, b, c] wp ∧ Nums w gy [x, y, z] wp by rw [← hwp]; exact ⟨HW.out.1.step (below_drewN (Below.refl _ _) _), HW.out.2.step (below_drewN (Below.refl _ _) _)⟩)
          clear hwp
          have c1 : wp.cell? ⟨gx, 1, none⟩ = some (Value.int .i64 b) := (HW.out.1.ints 1 (by simp))
          have c2 : wp.cell? ⟨gy, 1, none⟩ = some (Value.int .i64 y) := (HW.out.2.ints 1 (by simp))
          go_upto_region 8 with fail
          go_quiet (fail)
          generalize hwq : World.drewN wp _ = wq
          have HW := Kp.mk (show Nums w gx [a, b, c] wq ∧ Nums w gy [x, y, z] wq by rw [← hwq]; exact ⟨HW.out.1.step (below_drewN (Below.refl _ _) _), HW.out.2.step (below_drewN (Below.refl _ _) _)⟩)
          clear hwq
          go_wp2_with fail
          go_ret
          exact ⟨by rw [← HVAL.out, HV.out]; rfl, HW.out.1.below⟩
      · have hcx := (HW.out.1.ints 2 (by simp))
        have hcy := (HW.out.2.ints 2 (by simp))
        have c1 : wr.cell? ⟨gx, 2, none⟩ = some (Value.int .i64 c) := hcx
        have c2 : wr.cell? ⟨gy, 2, none⟩ = some (Value.int .i64 z) := hcy
        clear hcx hcy hlt hk
        rcases cmpI_cases c z with ⟨hl, hv⟩ | ⟨he, hv⟩ | ⟨hg, hv⟩
        · have HV := Kp.mk (show cmpC a b c x y z = -1 by have := HK.out; unfold cmpC; rw [show cmpI a x = 0 by rw [cmpI_eq]; omega, show cmpI b y = 0 by rw [cmpI_eq]; omega, hv]; rfl)
          clear hv
          go_upto_region 6 with fail
          go_quiet (fail)
          generalize hwq : World.drewN wr _ = wq
          have HW := Kp.mk (show Nums w gx [a, b, c] wq ∧ Nums w gy [x, y, z] wq by rw [← hwq]; exact ⟨HW.out.1.step (below_drewN (Below.refl _ _) _), HW.out.2.step (below_drewN (Below.refl _ _) _)⟩)
          clear hwq
          go_wp2_with fail
          go_ret
          exact ⟨by rw [← HVAL.out, HV.out]; rfl, HW.out.1.below⟩
        · have HK2 := Kp.mk (show (2 + 1 ≥ 1 → a = x) ∧ (2 + 1 ≥ 2 → b = y) ∧ (2 + 1 ≥ 3 → c = z) by have := HK.out; omega)
          have nl : ¬ c < z := by omega
          have ng : ¬ z < c := by omega
          clear hv he
          go_upto_region 6 with fail
          go_quiet (fail)
          generalize hwp : World.drewN wr _ = wp
          have HW := Kp.mk (show Nums w gx [a, b, c] wp ∧ Nums w gy [x, y, z] wp by rw [← hwp]; exact ⟨HW.out.1.step (below_drewN (Below.refl _ _) _), HW.out.2.step (below_drewN (Below.refl _ _) _)⟩)
          clear hwp
          have c1 : wp.cell? ⟨gx, 2, none⟩ = some (Value.int .i64 c) := (HW.out.1.ints 2 (by simp))
          have c2 : wp.cell? ⟨gy, 2, none⟩ = some (Value.int .i64 z) := (HW.out.2.ints 2 (by simp))
          go_upto_region 8 with fail
          go_quiet (fail)
          generalize hwq : World.drewN wp _ = wq
          have HW := Kp.mk (show Nums w gx [a, b, c] wq ∧ Nums w gy [x, y, z] wq by rw [← hwq]; exact ⟨HW.out.1.step (below_drewN (Below.refl _ _) _), HW.out.2.step (below_drewN (Below.refl _ _) _)⟩)
          clear hwq
          go_wp2_with fail
          go_roundw
          case rel =>
            first
              | exact ⟨3, by omega, rfl, HK2, HW⟩
              | ((repeat apply Exists.intro); exact ⟨⟨3, by omega, rfl, HK2, HW⟩, rfl⟩)
          case measure => simp [intOf]
        · have HV := Kp.mk (show cmpC a b c x y z = 1 by have := HK.out; unfold cmpC; rw [show cmpI a x = 0 by rw [cmpI_eq]; omega, show cmpI b y = 0 by rw [cmpI_eq]; omega, hv]; rfl)
          have nl : ¬ c < z := by omega
          clear hv
          go_upto_region 6 with fail
          go_quiet (fail)
          generalize hwp : World.drewN wr _ = wp
          have HW := Kp.mk (show Nums w gx [a, b, c] wp ∧ Nums w gy [x, y, z] wp by rw [← hwp]; exact ⟨HW.out.1.step (below_drewN (Below.refl _ _) _), HW.out.2.step (below_drewN (Below.refl _ _) _)⟩)
          clear hwp
          have c1 : wp.cell? ⟨gx, 2, none⟩ = some (Value.int .i64 c) := (HW.out.1.ints 2 (by simp))
          have c2 : wp.cell? ⟨gy, 2, none⟩ = some (Value.int .i64 z) := (HW.out.2.ints 2 (by simp))
          go_upto_region 8 with fail
          go_quiet (fail)
          generalize hwq : World.drewN wp _ = wq
          have HW := Kp.mk (show Nums w gx [a, b, c] wq ∧ Nums w gy [x, y, z] wq by rw [← hwq]; exact ⟨HW.out.1.step (below_drewN (Below.refl _ _) _), HW.out.2.step (below_drewN (Below.refl _ _) _)⟩)
          clear hwq
          go_wp2_with fail
          go_ret
          exact ⟨by rw [← HVAL.out, HV.out]; rfl, HW.out.1.below⟩
    · obtain rfl : k = 3 := by omega
      have HV := Kp.mk (show cmpC a b c x y z = 0 by have := HK.out; rw [cmpC_zero]; omega)
      go_wp2_with fail
      go_ret
      exact ⟨by rw [← HVAL.out, HV.out]; rfl, HW.out.1.below⟩
end Go.Proofs.YtoafigehcgledaaGreatDoor
