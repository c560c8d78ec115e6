/-
  DERIVED. WALK of the law SeasonsParts, given the contracts of package seasons. Written by mkse5.py.
-/
import Derived.Test.YtnmpejhljdkkgaaDoorSeCore
namespace Go.Proofs.YtnmpejhljdkkgaaDoor
open Go.RowKit
set_option maxRecDepth 100000

theorem run_same {y c f m : Int} (hy : isY y = true) (hf : fromI c = f) (hm : manyI c = m) (h0 : ¬ m = 0) (hle : f + m ≤ 13) : RunIs y c (Sm y f) (Sm y (f + m) - 1) 0 := by
  have e1 : zY y (f + m - 1) = y := zY_le (by omega)
  have e2 : zM (f + m - 1) = f + m - 1 := zM_le (by omega)
  have he : runE y c = 0 := by unfold runE; rw [hm, if_neg h0, hy, if_neg (by decide), hf, e1, hy, if_neg (by decide)]
  refine ⟨he, ?_⟩
  unfold runR
  rw [if_pos he]
  unfold loR hiR
  rw [hf, hm, e1, e2, show f + m - 1 + 1 = f + m by omega]
theorem run_over {y c : Int} (hy : isY y = true) (hz : isY (y + 1) = true) (hf : fromI c = 12) (hm : manyI c = 3) : RunIs y c (Sm y 12) (Sm (y + 1) 3 - 1) 0 := by
  have e1 : zY y (12 + 3 - 1) = y + 1 := zY_gt (by decide)
  have e2 : zM (12 + 3 - 1) = 2 := by decide
  have he : runE y c = 0 := by unfold runE; rw [hm, if_neg (by decide), hy, if_neg (by decide), hf, e1, hz, if_neg (by decide)]
  refine ⟨he, ?_⟩
  unfold runR
  rw [if_pos he]
  unfold loR hiR
  rw [hf, hm, e1, e2]; rfl
/-- the rows of codes of the seasons, and the row of these -/
structure Rows4 (w : World) (g : Nat) (W : World) : Prop where
  below : Below w.heap.size w W
  base : w.heap.size ≤ g
  size : g + 1 + 1 + 1 < W.heap.size
  r0 : ∀ i, i < 4 → W.cell? ⟨g, i, none⟩ = some (.int .i64 (([21, 22, 23, 24] : List Int).getD i 0))
  r1 : ∀ i, i < 4 → W.cell? ⟨g + 1, i, none⟩ = some (.int .i64 (([25, 26, 27, 28] : List Int).getD i 0))
  r2 : ∀ i, i < 4 → W.cell? ⟨g + 1 + 1, i, none⟩ = some (.int .i64 (([31, 32, 29, 30] : List Int).getD i 0))
  s0 : W.cell? ⟨g + 1 + 1 + 1, 0, none⟩ = some (.slice (some ⟨g, 0, none⟩) 4 4)
  s1 : W.cell? ⟨g + 1 + 1 + 1, 1, none⟩ = some (.slice (some ⟨g + 1, 0, none⟩) 4 4)
  s2 : W.cell? ⟨g + 1 + 1 + 1, 2, none⟩ = some (.slice (some ⟨g + 1 + 1, 0, none⟩) 4 4)
theorem Rows4.step {w W W' : World} {g : Nat} (h : Rows4 w g W) (hb : Below W.heap.size W W') : Rows4 w g W' := by
  have hs := h.size
  exact ⟨h.below.trans (hb.mono h.below.size), h.base, by have := hb.size; omega, fun i hi => by rw [hb.cell (p := ⟨g, i, none⟩) (show g < _ by omega)]; exact h.r0 i hi, fun i hi => by rw [hb.cell (p := ⟨g + 1, i, none⟩) (show g + 1 < _ by omega)]; exact h.r1 i hi, fun i hi => by rw [hb.cell (p := ⟨g + 1 + 1, i, none⟩) (show g + 1 + 1 < _ by omega)]; exact h.r2 i hi, by rw [hb.cell (p := ⟨g + 1 + 1 + 1, 0, none⟩) (show g + 1 + 1 + 1 < _ by omega)]; exact h.s0, by rw [hb.cell (p := ⟨g + 1 + 1 + 1, 1, none⟩) (show g + 1 + 1 + 1 < _ by omega)]; exact h.s1, by rw [hb.cell (p := ⟨g + 1 + 1 + 1, 2, none⟩) (show g + 1 + 1 + 1 < _ by omega)]; exact h.s2⟩
theorem cell_setRow (W : World) {g k : Nat} (cs : Array Value) (j : Nat) (h : k ≠ g) : (W.setRow g cs).cell? ⟨k, j, none⟩ = W.cell? ⟨k, j, none⟩ := World.cell?_of_block (setRow_other W g k cs h)
theorem Rows4.setRow {w W : World} {g k : Nat} (h : Rows4 w g W) (hk : g + 1 + 1 + 1 < k) (cs : Array Value) : Rows4 w g (W.setRow k cs) :=
  ⟨below_setRow h.below (by have := h.base; omega) cs, h.base, by simp [World.setRow]; exact h.size, fun i hi => by rw [cell_setRow W cs i (by omega)]; exact h.r0 i hi, fun i hi => by rw [cell_setRow W cs i (by omega)]; exact h.r1 i hi, fun i hi => by rw [cell_setRow W cs i (by omega)]; exact h.r2 i hi, by rw [cell_setRow W cs 0 (by omega)]; exact h.s0, by rw [cell_setRow W cs 1 (by omega)]; exact h.s1, by rw [cell_setRow W cs 2 (by omega)]; exact h.s2⟩
theorem rows4_new {w W : World} (hb : Below w.heap.size w W) : Rows4 w W.heap.size ((((W.alloc (.cells #[.int .i64 21, .int .i64 22, .int .i64 23, .int .i64 24] 3)).alloc (.cells #[.int .i64 25, .int .i64 26, .int .i64 27, .int .i64 28] 3)).alloc (.cells #[.int .i64 31, .int .i64 32, .int .i64 29, .int .i64 30] 3)).alloc (.cells #[.slice (some ⟨W.heap.size, 0, none⟩) 4 4, .slice (some ⟨W.heap.size + 1, 0, none⟩) 4 4, .slice (some ⟨W.heap.size + 1 + 1, 0, none⟩) 4 4] 42)) := by
  have s1 : ∀ (V : World) (O : Obj), (V.alloc O).heap.size = V.heap.size + 1 := fun V O => by simp
  have b1 : ∀ (V : World) (O : Obj), Below V.heap.size V (V.alloc O) := fun V O => (Below.refl V.heap.size V).alloc (Nat.le_refl _) O
  have n0 := nums_new [21, 22, 23, 24] 3 (Below.refl W.heap.size W)
  have n1 := nums_new [25, 26, 27, 28] 3 n0.below
  have n2 := nums_new [31, 32, 29, 30] 3 n1.below
  rw [s1] at n1
  rw [s1, s1] at n2
  have m0 := (((n0.step (b1 _ (.cells #[.int .i64 25, .int .i64 26, .int .i64 27, .int .i64 28] 3))).step (b1 _ (.cells #[.int .i64 31, .int .i64 32, .int .i64 29, .int .i64 30] 3))).step (b1 _ (.cells #[.slice (some ⟨W.heap.size, 0, none⟩) 4 4, .slice (some ⟨W.heap.size + 1, 0, none⟩) 4 4, .slice (some ⟨W.heap.size + 1 + 1, 0, none⟩) 4 4] 42)))
  have m1 := (n1.step (b1 _ (.cells #[.int .i64 31, .int .i64 32, .int .i64 29, .int .i64 30] 3))).step (b1 _ (.cells #[.slice (some ⟨W.heap.size, 0, none⟩) 4 4, .slice (some ⟨W.heap.size + 1, 0, none⟩) 4 4, .slice (some ⟨W.heap.size + 1 + 1, 0, none⟩) 4 4] 42))
  have m2 := n2.step (b1 _ (.cells #[.slice (some ⟨W.heap.size, 0, none⟩) 4 4, .slice (some ⟨W.heap.size + 1, 0, none⟩) 4 4, .slice (some ⟨W.heap.size + 1 + 1, 0, none⟩) 4 4] 42))
  have z : ∀ (V : World) (O : Obj) (j : Nat), V.heap.size = W.heap.size + 1 + 1 + 1 → (V.alloc O).cell? ⟨W.heap.size + 1 + 1 + 1, j, none⟩ = (V.alloc O).cell? ⟨V.heap.size, j, none⟩ := fun V O j e => by rw [e]
  refine ⟨hb.trans (m0.below.mono hb.size), hb.size, by rw [s1, s1, s1, s1]; omega, fun i hi => m0.ints i hi, fun i hi => m1.ints i hi, fun i hi => m2.ints i hi, ?_, ?_, ?_⟩
  · rw [z _ _ _ (by rw [s1, s1, s1]), World.cell?_alloc_new]; rfl
  · rw [z _ _ _ (by rw [s1, s1, s1]), World.cell?_alloc_new]; rfl
  · rw [z _ _ _ (by rw [s1, s1, s1]), World.cell?_alloc_new]; rfl
theorem parts0 {y : Int} (hy : isY y = true) (j : Nat) (hj : j < 4) : RunIs y (33 + (j : Int)) (Sm y (3 * (j : Int) + 1)) (Sm y (3 * ((j : Int) + 1) + 1) - 1) 0 := by
  rcases (show j = 0 ∨ j = 1 ∨ j = 2 ∨ j = 3 by omega) with rfl | rfl | rfl | rfl
  · exact run_same (f := 1) (m := 3) hy (by decide) (by decide) (by decide) (by decide)
  · exact run_same (f := 4) (m := 3) hy (by decide) (by decide) (by decide) (by decide)
  · exact run_same (f := 7) (m := 3) hy (by decide) (by decide) (by decide) (by decide)
  · exact run_same (f := 10) (m := 3) hy (by decide) (by decide) (by decide) (by decide)
theorem parts1 {y : Int} (hy : isY y = true) (j : Nat) (hj : j < 3) : RunIs y (37 + (j : Int)) (Sm y (4 * (j : Int) + 1)) (Sm y (4 * ((j : Int) + 1) + 1) - 1) 0 := by
  rcases (show j = 0 ∨ j = 1 ∨ j = 2 by omega) with rfl | rfl | rfl
  · exact run_same (f := 1) (m := 4) hy (by decide) (by decide) (by decide) (by decide)
  · exact run_same (f := 5) (m := 4) hy (by decide) (by decide) (by decide) (by decide)
  · exact run_same (f := 9) (m := 4) hy (by decide) (by decide) (by decide) (by decide)
theorem parts2 {y : Int} (hy : isY y = true) (j : Nat) (hj : j < 2) : RunIs y (40 + (j : Int)) (Sm y (6 * (j : Int) + 1)) (Sm y (6 * ((j : Int) + 1) + 1) - 1) 0 := by
  rcases (show j = 0 ∨ j = 1 by omega) with rfl | rfl
  · exact run_same (f := 1) (m := 6) hy (by decide) (by decide) (by decide) (by decide)
  · exact run_same (f := 7) (m := 6) hy (by decide) (by decide) (by decide) (by decide)
theorem seas0 {y : Int} (hy : isY y = true) (hz : isY (y + 1) = true) : RunIs (y + 1) 21 (Sm (y + 1) 3) (Sm (y + 1) 6 - 1) 0 ∧ RunIs y 24 (Sm y 12) (Sm (y + 1) 3 - 1) 0 ∧ RunIs y 23 (Sm y 9) (Sm y 12 - 1) 0 ∧ RunIs y 22 (Sm y 6) (Sm y 9 - 1) 0 ∧ RunIs y 21 (Sm y 3) (Sm y 6 - 1) 0 :=
  ⟨run_same (f := 3) (m := 3) hz (by decide) (by decide) (by decide) (by decide), run_over hy hz (by decide) (by decide), run_same (f := 9) (m := 3) hy (by decide) (by decide) (by decide) (by decide), run_same (f := 6) (m := 3) hy (by decide) (by decide) (by decide) (by decide), run_same (f := 3) (m := 3) hy (by decide) (by decide) (by decide) (by decide)⟩
theorem seas1 {y : Int} (hy : isY y = true) (hz : isY (y + 1) = true) : RunIs (y + 1) 25 (Sm (y + 1) 3) (Sm (y + 1) 6 - 1) 0 ∧ RunIs y 28 (Sm y 12) (Sm (y + 1) 3 - 1) 0 ∧ RunIs y 27 (Sm y 9) (Sm y 12 - 1) 0 ∧ RunIs y 26 (Sm y 6) (Sm y 9 - 1) 0 ∧ RunIs y 25 (Sm y 3) (Sm y 6 - 1) 0 :=
  ⟨run_same (f := 3) (m := 3) hz (by decide) (by decide) (by decide) (by decide), run_over hy hz (by decide) (by decide), run_same (f := 9) (m := 3) hy (by decide) (by decide) (by decide) (by decide), run_same (f := 6) (m := 3) hy (by decide) (by decide) (by decide) (by decide), run_same (f := 3) (m := 3) hy (by decide) (by decide) (by decide) (by decide)⟩
theorem seas2 {y : Int} (hy : isY y = true) (hz : isY (y + 1) = true) : RunIs (y + 1) 31 (Sm (y + 1) 3) (Sm (y + 1) 6 - 1) 0 ∧ RunIs y 30 (Sm y 12) (Sm (y + 1) 3 - 1) 0 ∧ RunIs y 29 (Sm y 9) (Sm y 12 - 1) 0 ∧ RunIs y 32 (Sm y 6) (Sm y 9 - 1) 0 ∧ RunIs y 31 (Sm y 3) (Sm y 6 - 1) 0 :=
  ⟨run_same (f := 3) (m := 3) hz (by decide) (by decide) (by decide) (by decide), run_over hy hz (by decide) (by decide), run_same (f := 9) (m := 3) hy (by decide) (by decide) (by decide) (by decide), run_same (f := 6) (m := 3) hy (by decide) (by decide) (by decide) (by decide), run_same (f := 3) (m := 3) hy (by decide) (by decide) (by decide) (by decide)⟩
set_option maxHeartbeats 8000000 in
theorem lawParts_no {I : World → Prop} (C : SeaFns I) (y : Int) (w : World) (hI : I w) (y0 : -9223372036854775808 ≤ y) (y1 : y ≤ 9223372036854775807) (hy : isY y = false) :
    Calls Tryd.prog 5 #[.int .i64 y] w fun e w' => e = .returned (.bool true) ∧ Below w.heap.size w w' := by
  have HB := Kp.mk (Bl.mk (Below.refl w.heap.size w))
  have HI := Kp.mk (fun (v : World) (h : Below w.heap.size w v) => C.keep hI h)
  clear hI
  have rl := Kp.mk (fun v (hw : Below w.heap.size w v) => C.lives v (HI.out v hw))
  have i1 : Kp (∀ w, Calls Tryd.prog 19 #[.int .i64 (y)] w fun e w' => e = .returned (.bool false) ∧ w = w') := Kp.mk (fun w => refIs_is w hy)
  have hr : RunIs y 33 0 0 6 := by
    have he : runE y 33 = 6 := by unfold runE; rw [if_neg (by decide), hy, if_pos rfl]
    exact ⟨he, by unfold runR; rw [he, if_neg (by decide)]⟩
  have r1 := Kp.mk (fun v (hw : Below w.heap.size w v) => C.run v (HI.out v hw) y0 y1 (by decide) (by decide) hr.err hr.val)
  clear C y0 y1 hy hr
  go_enter Tryd.func5, Tryd.ntmps5
  go_wp2_with fail
  refine (i1.out _).mono ?_
  rintro e w' ⟨rfl, rfl⟩
  go_wp2_with fail
  refine (r1.out _ HB.out.below).mono ?_
  rintro e u1 ⟨rfl, hbl⟩
  have HB := Kp.mk (HB.out.step hbl)
  clear hbl
  go_upto_region 3 with fail
  have HX := Kp.mk (rb_new 0 0 32 HB.out.below)
  have hbl := (Below.refl u1.heap.size u1).alloc (Nat.le_refl _) (.cells #[.int .i8 0, .int .i64 0, .int .i8 0, .int .i64 0] 32)
  have HB := Kp.mk (HB.out.step hbl)
  clear hbl
  generalize u1.alloc (.cells #[.int .i8 0, .int .i64 0, .int .i8 0, .int .i64 0] 32) = u2 at *
  generalize u1.heap.size = g1 at *
  have kHX0 := HX.out.c0
  have kHX1 := HX.out.c1
  have kHX2 := HX.out.c2
  have kHX3 := HX.out.c3
  go_wp2_with fail
  refine (rl.out _ HB.out.below).mono ?_
  rintro e u3 ⟨rfl, hbl⟩
  clear kHX0 kHX1 kHX2 kHX3
  have HB := Kp.mk (HB.out.step hbl)
  have HX := Kp.mk (HX.out.step hbl)
  clear hbl
  have kHX0 := HX.out.c0
  have kHX1 := HX.out.c1
  have kHX2 := HX.out.c2
  have kHX3 := HX.out.c3
  go_wp2_with fail
  go_ret
  exact ⟨rfl, HB.out.below⟩
set_option maxHeartbeats 8000000 in
theorem lawParts_last {I : World → Prop} (C : SeaFns I) (y : Int) (w : World) (hI : I w) (y0 : -9223372036854775808 ≤ y) (y1 : y ≤ 9223372036854775807) (hy : isY y = true) (hz : isY (y + 1) = false) :
    Calls Tryd.prog 5 #[.int .i64 y] w fun e w' => e = .returned (.bool true) ∧ Below w.heap.size w w' := by
  have HB := Kp.mk (Bl.mk (Below.refl w.heap.size w))
  have HI := Kp.mk (fun (v : World) (h : Below w.heap.size w v) => C.keep hI h)
  clear hI
  have rl := Kp.mk (fun v (hw : Below w.heap.size w v) => C.lives v (HI.out v hw))
  have i1 : Kp (∀ w, Calls Tryd.prog 19 #[.int .i64 (y)] w fun e w' => e = .returned (.bool true) ∧ w = w') := Kp.mk (fun w => refIs_is w hy)
  have i2 : Kp (∀ w, Calls Tryd.prog 19 #[.int .i64 (y + 1)] w fun e w' => e = .returned (.bool false) ∧ w = w') := Kp.mk (fun w => refIs_is w hz)
  have hyr := (isY_iff y).1 hy
  have hsd := Sd_in hy
  obtain ⟨s, hs⟩ : ∃ s, Sd y = s := ⟨_, rfl⟩
  obtain ⟨l, hl⟩ : ∃ l, lenI y = l := ⟨_, rfl⟩
  obtain ⟨t, ht⟩ : ∃ t, Sm y 13 = t := ⟨_, rfl⟩
  have htwo := lenI_two y
  have hst : s + l = t := by rw [← hs, ← hl, ← ht, Sm_end, Sd_succ]
  rw [hl] at htwo
  have hb : ∀ m : Int, 1 ≤ m → m ≤ 13 → -9223372036854775808 ≤ Sm y m ∧ Sm y m ≤ 9223372036854775807 := fun m a b => by have := Sm_in (y := y) a b; omega
  rw [hs] at hsd
  have HSB := Kp.mk hb
  have r1 := Kp.mk (fun w => refStart_is (y := y) w (by omega) (by omega) hs)
  have r2 := Kp.mk (fun w => refLen_is w hl)
  have w1 : IntKind.i64.wrap (s + l) = t := by rw [hst]; exact IntWalk.i64_in _ (by omega)
  have w2 : IntKind.i64.wrap (y + 1) = y + 1 := IntWalk.i64_in _ (by omega)
  have HS1 := Kp.mk (show Sm y 1 = s by rw [Sm_one, hs])
  have HT := Kp.mk ht
  have pr0 := Kp.mk (fun (j : Nat) (hj : j < 4) v (hw : Below w.heap.size w v) => C.run v (HI.out v hw) y0 y1 (by omega) (by omega) (parts0 hy j hj).err (parts0 hy j hj).val)
  have pr1 := Kp.mk (fun (j : Nat) (hj : j < 3) v (hw : Below w.heap.size w v) => C.run v (HI.out v hw) y0 y1 (by omega) (by omega) (parts1 hy j hj).err (parts1 hy j hj).val)
  have pr2 := Kp.mk (fun (j : Nat) (hj : j < 2) v (hw : Below w.heap.size w v) => C.run v (HI.out v hw) y0 y1 (by omega) (by omega) (parts2 hy j hj).err (parts2 hy j hj).val)
  clear C y0 y1 hy hz hyr hsd hs hl ht htwo hst hb
  have HQ : Kp (Nums w w.heap.size [33, 37, 40] ((w.alloc (.cells #[.int .i64 33, .int .i64 37, .int .i64 40] 3)).alloc (.cells #[.int .i64 36, .int .i64 39, .int .i64 41] 3)) ∧ Nums w (w.heap.size + 1) [36, 39, 41] ((w.alloc (.cells #[.int .i64 33, .int .i64 37, .int .i64 40] 3)).alloc (.cells #[.int .i64 36, .int .i64 39, .int .i64 41] 3))) := Kp.mk (by
    have h1 := nums_new [33, 37, 40] 3 (Below.refl w.heap.size w)
    have h2 := nums_new [36, 39, 41] 3 h1.below
    rw [World.size_alloc] at h2
    exact ⟨h1.step ((Below.refl (w.alloc (.cells #[.int .i64 33, .int .i64 37, .int .i64 40] 3)).heap.size _).alloc (Nat.le_refl _) (.cells #[.int .i64 36, .int .i64 39, .int .i64 41] 3)), h2⟩)
  go_enter Tryd.func5, Tryd.ntmps5
  go_wp2_with fail
  refine (i1.out _).mono ?_
  rintro e w' ⟨rfl, rfl⟩
  go_upto_region 5 with fail
  generalize ((w.alloc (.cells #[.int .i64 33, .int .i64 37, .int .i64 40] 3)).alloc (.cells #[.int .i64 36, .int .i64 39, .int .i64 41] 3)) = w0 at *
  have HF := Kp.mk HQ.out.1
  have HL := Kp.mk HQ.out.2
  have HG := Kp.mk (Nat.le_refl w.heap.size)
  clear HQ
  generalize hg0 : w.heap.size = g0 at HF HL ⊢
  clear hg0
  go_wp2_with fail
  go_loopw [7] (fun i wr => ∃ k : Nat, k ≤ 3 ∧ i = .int .i64 k ∧ Kp (Nums w g0 [33, 37, 40] wr) ∧ Kp (Nums w (g0 + 1) [36, 39, 41] wr)) (fun i _ => 3 - (intOf i).toNat)
  case atStart => exact ⟨0, by omega, rfl, HF, HL⟩
  case round =>
    obtain ⟨k, hk, rfl, HF, HL⟩ := hrel
    rcases (show k = 0 ∨ k = 1 ∨ k = 2 ∨ k = 3 by omega) with rfl | rfl | rfl | rfl
    · have n0 : wr.cell? ⟨g0, 0, none⟩ = some (.int .i64 33) := HF.out.ints 0 (by decide)
      have HM := Kp.mk (And.intro HF.out HL.out)
      go_wp2_with fail
      refine (r1.out _).mono ?_
      rintro e w' ⟨rfl, rfl⟩
      go_wp2_with fail
      clear n0
      go_loopw [8, 9] (fun dv cv wr => ∃ j : Nat, j ≤ 4 ∧ cv = .int .i64 (33 + (j : Int)) ∧ dv = .int .i64 (Sm y (3 * (j : Int) + 1)) ∧ Kp (Nums w g0 [33, 37, 40] wr) ∧ Kp (Nums w (g0 + 1) [36, 39, 41] wr)) (fun _ cv _ => (37 - intOf cv).toNat)
      case atStart => exact ⟨0, by omega, rfl, by rw [show (3 : Int) * ((0 : Nat) : Int) + 1 = 1 by decide, HS1.out], Kp.mk HM.out.1, Kp.mk HM.out.2⟩
      case round =>
        obtain ⟨j, hj, rfl, rfl, HF, HL⟩ := hrel
        have n1 : wr.cell? ⟨g0 + 1, 0, none⟩ = some (.int .i64 36) := HL.out.ints 0 (by decide)
        obtain ⟨a, ha⟩ : ∃ a, Sm y (3 * (j : Int) + 1) = a := ⟨_, rfl⟩
        rw [ha]
        by_cases hlt : j < 4
        · obtain ⟨b, hb⟩ : ∃ b, Sm y (3 * ((j : Int) + 1) + 1) = b := ⟨_, rfl⟩
          have hbb := HSB.out (3 * ((j : Int) + 1) + 1) (by omega) (by omega)
          rw [hb] at hbb
          have p1 := Kp.mk (fun v hw => pr0.out j hlt v hw)
          rw [ha, hb] at p1
          have w3 : IntKind.i64.wrap b = b := IntWalk.i64_in _ (by omega)
          have w4 : IntKind.i64.wrap (33 + (j : Int) + 1) = 33 + (j : Int) + 1 := IntWalk.i64_in _ (by omega)
          have t1 : 33 + (j : Int) ≤ 36 := by omega
          have HE := Kp.mk (show Sm y (3 * ((j + 1 : Nat) : Int) + 1) = b by rw [← hb]; congr 1)
          clear ha hb hbb
          go_wp2_with fail
          refine (p1.out _ HF.out.below).mono ?_
          rintro e v1 ⟨rfl, hbl⟩
          have HF := Kp.mk (HF.out.step hbl)
          have HL := Kp.mk (HL.out.step hbl)
          clear hbl n1
          go_upto_region 13 with fail
          have HX := Kp.mk (rb_new a (b - 1) 32 HF.out.below)
          have hbl := (Below.refl v1.heap.size v1).alloc (Nat.le_refl _) (.cells #[.int .i8 0, .int .i64 a, .int .i8 0, .int .i64 (b - 1)] 32)
          have HF := Kp.mk (HF.out.step hbl)
          have HL := Kp.mk (HL.out.step hbl)
          clear hbl
          generalize v1.alloc (.cells #[.int .i8 0, .int .i64 a, .int .i8 0, .int .i64 (b - 1)] 32) = v2 at *
          generalize v1.heap.size = g1 at *
          have k1 := HX.out.c1
          have k3 := HX.out.c3
          go_wp2_with fail
          go_roundw
          case rel => exact ⟨j + 1, by omega, by go_num, by rw [HE.out], HF, HL⟩
          case measure => simp [intOf]; omega
        · obtain rfl : j = 4 := by omega
          have t1 : ¬ (33 : Int) + ((4 : Nat) : Int) ≤ 36 := by decide
          obtain rfl : t = a := by rw [← ha, ← HT.out]; rfl
          clear ha hj hlt
          go_wp2_with fail
          refine (r1.out _).mono ?_
          rintro e w' ⟨rfl, rfl⟩
          go_wp2_with fail
          refine (r2.out _).mono ?_
          rintro e w' ⟨rfl, rfl⟩
          go_wp2_with fail
          go_roundw
          case rel => exact ⟨1, by omega, rfl, HF, HL⟩
          case measure => simp [intOf]
    · have n0 : wr.cell? ⟨g0, 1, none⟩ = some (.int .i64 37) := HF.out.ints 1 (by decide)
      have HM := Kp.mk (And.intro HF.out HL.out)
      go_wp2_with fail
      refine (r1.out _).mono ?_
      rintro e w' ⟨rfl, rfl⟩
      go_wp2_with fail
      clear n0
      go_loopw [8, 9] (fun dv cv wr => ∃ j : Nat, j ≤ 3 ∧ cv = .int .i64 (37 + (j : Int)) ∧ dv = .int .i64 (Sm y (4 * (j : Int) + 1)) ∧ Kp (Nums w g0 [33, 37, 40] wr) ∧ Kp (Nums w (g0 + 1) [36, 39, 41] wr)) (fun _ cv _ => (40 - intOf cv).toNat)
      case atStart => exact ⟨0, by omega, rfl, by rw [show (4 : Int) * ((0 : Nat) : Int) + 1 = 1 by decide, HS1.out], Kp.mk HM.out.1, Kp.mk HM.out.2⟩
      case round =>
        obtain ⟨j, hj, rfl, rfl, HF, HL⟩ := hrel
        have n1 : wr.cell? ⟨g0 + 1, 1, none⟩ = some (.int .i64 39) := HL.out.ints 1 (by decide)
        obtain ⟨a, ha⟩ : ∃ a, Sm y (4 * (j : Int) + 1) = a := ⟨_, rfl⟩
        rw [ha]
        by_cases hlt : j < 3
        · obtain ⟨b, hb⟩ : ∃ b, Sm y (4 * ((j : Int) + 1) + 1) = b := ⟨_, rfl⟩
          have hbb := HSB.out (4 * ((j : Int) + 1) + 1) (by omega) (by omega)
          rw [hb] at hbb
          have p1 := Kp.mk (fun v hw => pr1.out j hlt v hw)
          rw [ha, hb] at p1
          have w3 : IntKind.i64.wrap b = b := IntWalk.i64_in _ (by omega)
          have w4 : IntKind.i64.wrap (37 + (j : Int) + 1) = 37 + (j : Int) + 1 := IntWalk.i64_in _ (by omega)
          have t1 : 37 + (j : Int) ≤ 39 := by omega
          have HE := Kp.mk (show Sm y (4 * ((j + 1 : Nat) : Int) + 1) = b by rw [← hb]; congr 1)
          clear ha hb hbb
          go_wp2_with fail
          refine (p1.out _ HF.out.below).mono ?_
          rintro e v1 ⟨rfl, hbl⟩
          have HF := Kp.mk (HF.out.step hbl)
          have HL := Kp.mk (HL.out.step hbl)
          clear hbl n1
          go_upto_region 13 with fail
          have HX := Kp.mk (rb_new a (b - 1) 32 HF.out.below)
          have hbl := (Below.refl v1.heap.size v1).alloc (Nat.le_refl _) (.cells #[.int .i8 0, .int .i64 a, .int .i8 0, .int .i64 (b - 1)] 32)
          have HF := Kp.mk (HF.out.step hbl)
          have HL := Kp.mk (HL.out.step hbl)
          clear hbl
          generalize v1.alloc (.cells #[.int .i8 0, .int .i64 a, .int .i8 0, .int .i64 (b - 1)] 32) = v2 at *
          generalize v1.heap.size = g1 at *
          have k1 := HX.out.c1
          have k3 := HX.out.c3
          go_wp2_with fail
          go_roundw
          case rel => exact ⟨j + 1, by omega, by go_num, by rw [HE.out], HF, HL⟩
          case measure => simp [intOf]; omega
        · obtain rfl : j = 3 := by omega
          have t1 : ¬ (37 : Int) + ((3 : Nat) : Int) ≤ 39 := by decide
          obtain rfl : t = a := by rw [← ha, ← HT.out]; rfl
          clear ha hj hlt
          go_wp2_with fail
          refine (r1.out _).mono ?_
          rintro e w' ⟨rfl, rfl⟩
          go_wp2_with fail
          refine (r2.out _).mono ?_
          rintro e w' ⟨rfl, rfl⟩
          go_wp2_with fail
          go_roundw
          case rel => exact ⟨2, by omega, rfl, HF, HL⟩
          case measure => simp [intOf]
    · have n0 : wr.cell? ⟨g0, 2, none⟩ = some (.int .i64 40) := HF.out.ints 2 (by decide)
      have HM := Kp.mk (And.intro HF.out HL.out)
      go_wp2_with fail
      refine (r1.out _).mono ?_
      rintro e w' ⟨rfl, rfl⟩
      go_wp2_with fail
      clear n0
      go_loopw [8, 9] (fun dv cv wr => ∃ j : Nat, j ≤ 2 ∧ cv = .int .i64 (40 + (j : Int)) ∧ dv = .int .i64 (Sm y (6 * (j : Int) + 1)) ∧ Kp (Nums w g0 [33, 37, 40] wr) ∧ Kp (Nums w (g0 + 1) [36, 39, 41] wr)) (fun _ cv _ => (42 - intOf cv).toNat)
      case atStart => exact ⟨0, by omega, rfl, by rw [show (6 : Int) * ((0 : Nat) : Int) + 1 = 1 by decide, HS1.out], Kp.mk HM.out.1, Kp.mk HM.out.2⟩
      case round =>
        obtain ⟨j, hj, rfl, rfl, HF, HL⟩ := hrel
        have n1 : wr.cell? ⟨g0 + 1, 2, none⟩ = some (.int .i64 41) := HL.out.ints 2 (by decide)
        obtain ⟨a, ha⟩ : ∃ a, Sm y (6 * (j : Int) + 1) = a := ⟨_, rfl⟩
        rw [ha]
        by_cases hlt : j < 2
        · obtain ⟨b, hb⟩ : ∃ b, Sm y (6 * ((j : Int) + 1) + 1) = b := ⟨_, rfl⟩
          have hbb := HSB.out (6 * ((j : Int) + 1) + 1) (by omega) (by omega)
          rw [hb] at hbb
          have p1 := Kp.mk (fun v hw => pr2.out j hlt v hw)
          rw [ha, hb] at p1
          have w3 : IntKind.i64.wrap b = b := IntWalk.i64_in _ (by omega)
          have w4 : IntKind.i64.wrap (40 + (j : Int) + 1) = 40 + (j : Int) + 1 := IntWalk.i64_in _ (by omega)
          have t1 : 40 + (j : Int) ≤ 41 := by omega
          have HE := Kp.mk (show Sm y (6 * ((j + 1 : Nat) : Int) + 1) = b by rw [← hb]; congr 1)
          clear ha hb hbb
          go_wp2_with fail
          refine (p1.out _ HF.out.below).mono ?_
          rintro e v1 ⟨rfl, hbl⟩
          have HF := Kp.mk (HF.out.step hbl)
          have HL := Kp.mk (HL.out.step hbl)
          clear hbl n1
          go_upto_region 13 with fail
          have HX := Kp.mk (rb_new a (b - 1) 32 HF.out.below)
          have hbl := (Below.refl v1.heap.size v1).alloc (Nat.le_refl _) (.cells #[.int .i8 0, .int .i64 a, .int .i8 0, .int .i64 (b - 1)] 32)
          have HF := Kp.mk (HF.out.step hbl)
          have HL := Kp.mk (HL.out.step hbl)
          clear hbl
          generalize v1.alloc (.cells #[.int .i8 0, .int .i64 a, .int .i8 0, .int .i64 (b - 1)] 32) = v2 at *
          generalize v1.heap.size = g1 at *
          have k1 := HX.out.c1
          have k3 := HX.out.c3
          go_wp2_with fail
          go_roundw
          case rel => exact ⟨j + 1, by omega, by go_num, by rw [HE.out], HF, HL⟩
          case measure => simp [intOf]; omega
        · obtain rfl : j = 2 := by omega
          have t1 : ¬ (40 : Int) + ((2 : Nat) : Int) ≤ 41 := by decide
          obtain rfl : t = a := by rw [← ha, ← HT.out]; rfl
          clear ha hj hlt
          go_wp2_with fail
          refine (r1.out _).mono ?_
          rintro e w' ⟨rfl, rfl⟩
          go_wp2_with fail
          refine (r2.out _).mono ?_
          rintro e w' ⟨rfl, rfl⟩
          go_wp2_with fail
          go_roundw
          case rel => exact ⟨3, by omega, rfl, HF, HL⟩
          case measure => simp [intOf]
    · have HB := Kp.mk (Bl.mk HF.out.below)
      clear HF HL hk pr0 pr1 pr2 r1 r2
      go_wp2_with fail
      refine (i2.out _).mono ?_
      rintro e w' ⟨rfl, rfl⟩
      go_wp2_with fail
      refine (rl.out _ HB.out.below).mono ?_
      rintro e w9 ⟨rfl, hbl⟩
      have HB := Kp.mk (HB.out.step hbl)
      clear hbl
      go_wp2_with fail
      go_ret
      exact ⟨rfl, HB.out.below⟩
set_option maxHeartbeats 8000000 in
theorem lawParts_next {I : World → Prop} (C : SeaFns I) (y : Int) (w : World) (hI : I w) (y0 : -9223372036854775808 ≤ y) (y1 : y ≤ 9223372036854775807) (hy : isY y = true) (hz : isY (y + 1) = true) :
    Calls Tryd.prog 5 #[.int .i64 y] w fun e w' => e = .returned (.bool true) ∧ Below w.heap.size w w' := by
  have HB := Kp.mk (Bl.mk (Below.refl w.heap.size w))
  have HI := Kp.mk (fun (v : World) (h : Below w.heap.size w v) => C.keep hI h)
  clear hI
  have rl := Kp.mk (fun v (hw : Below w.heap.size w v) => C.lives v (HI.out v hw))
  have i1 : Kp (∀ w, Calls Tryd.prog 19 #[.int .i64 (y)] w fun e w' => e = .returned (.bool true) ∧ w = w') := Kp.mk (fun w => refIs_is w hy)
  have i2 : Kp (∀ w, Calls Tryd.prog 19 #[.int .i64 (y + 1)] w fun e w' => e = .returned (.bool true) ∧ w = w') := Kp.mk (fun w => refIs_is w hz)
  have hyr := (isY_iff y).1 hy
  have hsd := Sd_in hy
  obtain ⟨s, hs⟩ : ∃ s, Sd y = s := ⟨_, rfl⟩
  obtain ⟨l, hl⟩ : ∃ l, lenI y = l := ⟨_, rfl⟩
  obtain ⟨t, ht⟩ : ∃ t, Sm y 13 = t := ⟨_, rfl⟩
  have htwo := lenI_two y
  have hst : s + l = t := by rw [← hs, ← hl, ← ht, Sm_end, Sd_succ]
  rw [hl] at htwo
  have hb : ∀ m : Int, 1 ≤ m → m ≤ 13 → -9223372036854775808 ≤ Sm y m ∧ Sm y m ≤ 9223372036854775807 := fun m a b => by have := Sm_in (y := y) a b; omega
  rw [hs] at hsd
  have HSB := Kp.mk hb
  have r1 := Kp.mk (fun w => refStart_is (y := y) w (by omega) (by omega) hs)
  have r2 := Kp.mk (fun w => refLen_is w hl)
  have w1 : IntKind.i64.wrap (s + l) = t := by rw [hst]; exact IntWalk.i64_in _ (by omega)
  have w2 : IntKind.i64.wrap (y + 1) = y + 1 := IntWalk.i64_in _ (by omega)
  have HS1 := Kp.mk (show Sm y 1 = s by rw [Sm_one, hs])
  have HT := Kp.mk ht
  have pr0 := Kp.mk (fun (j : Nat) (hj : j < 4) v (hw : Below w.heap.size w v) => C.run v (HI.out v hw) y0 y1 (by omega) (by omega) (parts0 hy j hj).err (parts0 hy j hj).val)
  have pr1 := Kp.mk (fun (j : Nat) (hj : j < 3) v (hw : Below w.heap.size w v) => C.run v (HI.out v hw) y0 y1 (by omega) (by omega) (parts1 hy j hj).err (parts1 hy j hj).val)
  have pr2 := Kp.mk (fun (j : Nat) (hj : j < 2) v (hw : Below w.heap.size w v) => C.run v (HI.out v hw) y0 y1 (by omega) (by omega) (parts2 hy j hj).err (parts2 hy j hj).val)
  have hzr := (isY_iff (y + 1)).1 hz
  have hs2 := Sd_in hz
  have hn0 : -9223372036854775808 ≤ Sm (y + 1) 3 ∧ Sm (y + 1) 3 ≤ 9223372036854775807 := by have := Sm_in (y := y + 1) (m := 3) (by decide) (by decide); omega
  have hn1 := hb 12 (by decide) (by decide)
  have hn2 := hb 9 (by decide) (by decide)
  have hn3 := hb 6 (by decide) (by decide)
  have sx0 := seas0 hy hz
  have sx1 := seas1 hy hz
  have sx2 := seas2 hy hz
  obtain ⟨e0, he0⟩ : ∃ e, Sm (y + 1) 6 - 1 = e := ⟨_, rfl⟩
  obtain ⟨q0, hq0⟩ : ∃ q, Sm (y + 1) 3 = q := ⟨_, rfl⟩
  obtain ⟨q1, hq1⟩ : ∃ q, Sm y 12 = q := ⟨_, rfl⟩
  obtain ⟨q2, hq2⟩ : ∃ q, Sm y 9 = q := ⟨_, rfl⟩
  obtain ⟨q3, hq3⟩ : ∃ q, Sm y 6 = q := ⟨_, rfl⟩
  obtain ⟨q4, hq4⟩ : ∃ q, Sm y 3 = q := ⟨_, rfl⟩
  rw [hq0] at hn0
  rw [hq1] at hn1
  rw [hq2] at hn2
  rw [hq3] at hn3
  rw [hq0, hq1, hq2, hq3, hq4, he0] at sx0
  rw [hq0, hq1, hq2, hq3, hq4, he0] at sx1
  rw [hq0, hq1, hq2, hq3, hq4, he0] at sx2
  have x0 := Kp.mk (fun v (hw : Below w.heap.size w v) => C.run v (HI.out v hw) (by omega) (by omega) (by decide) (by decide) sx0.1.err sx0.1.val)
  have y00 := Kp.mk (fun v (hw : Below w.heap.size w v) => C.run v (HI.out v hw) y0 y1 (by decide) (by decide) (sx0.2.1).err (sx0.2.1).val)
  have y01 := Kp.mk (fun v (hw : Below w.heap.size w v) => C.run v (HI.out v hw) y0 y1 (by decide) (by decide) (sx0.2.2.1).err (sx0.2.2.1).val)
  have y02 := Kp.mk (fun v (hw : Below w.heap.size w v) => C.run v (HI.out v hw) y0 y1 (by decide) (by decide) (sx0.2.2.2.1).err (sx0.2.2.2.1).val)
  have y03 := Kp.mk (fun v (hw : Below w.heap.size w v) => C.run v (HI.out v hw) y0 y1 (by decide) (by decide) (sx0.2.2.2.2).err (sx0.2.2.2.2).val)
  have x1 := Kp.mk (fun v (hw : Below w.heap.size w v) => C.run v (HI.out v hw) (by omega) (by omega) (by decide) (by decide) sx1.1.err sx1.1.val)
  have y10 := Kp.mk (fun v (hw : Below w.heap.size w v) => C.run v (HI.out v hw) y0 y1 (by decide) (by decide) (sx1.2.1).err (sx1.2.1).val)
  have y11 := Kp.mk (fun v (hw : Below w.heap.size w v) => C.run v (HI.out v hw) y0 y1 (by decide) (by decide) (sx1.2.2.1).err (sx1.2.2.1).val)
  have y12 := Kp.mk (fun v (hw : Below w.heap.size w v) => C.run v (HI.out v hw) y0 y1 (by decide) (by decide) (sx1.2.2.2.1).err (sx1.2.2.2.1).val)
  have y13 := Kp.mk (fun v (hw : Below w.heap.size w v) => C.run v (HI.out v hw) y0 y1 (by decide) (by decide) (sx1.2.2.2.2).err (sx1.2.2.2.2).val)
  have x2 := Kp.mk (fun v (hw : Below w.heap.size w v) => C.run v (HI.out v hw) (by omega) (by omega) (by decide) (by decide) sx2.1.err sx2.1.val)
  have y20 := Kp.mk (fun v (hw : Below w.heap.size w v) => C.run v (HI.out v hw) y0 y1 (by decide) (by decide) (sx2.2.1).err (sx2.2.1).val)
  have y21 := Kp.mk (fun v (hw : Below w.heap.size w v) => C.run v (HI.out v hw) y0 y1 (by decide) (by decide) (sx2.2.2.1).err (sx2.2.2.1).val)
  have y22 := Kp.mk (fun v (hw : Below w.heap.size w v) => C.run v (HI.out v hw) y0 y1 (by decide) (by decide) (sx2.2.2.2.1).err (sx2.2.2.2.1).val)
  have y23 := Kp.mk (fun v (hw : Below w.heap.size w v) => C.run v (HI.out v hw) y0 y1 (by decide) (by decide) (sx2.2.2.2.2).err (sx2.2.2.2.2).val)
  have wq0 : IntKind.i64.wrap q0 = q0 := IntWalk.i64_in _ hn0
  have wq1 : IntKind.i64.wrap q1 = q1 := IntWalk.i64_in _ hn1
  have wq2 : IntKind.i64.wrap q2 = q2 := IntWalk.i64_in _ hn2
  have wq3 : IntKind.i64.wrap q3 = q3 := IntWalk.i64_in _ hn3
  clear C y0 y1 hy hz hyr hsd hs hl ht htwo hst hb hzr hs2 hn0 hn1 hn2 hn3 hq0 hq1 hq2 hq3 hq4 he0 sx0 sx1 sx2
  have HQ : Kp (Nums w w.heap.size [33, 37, 40] ((w.alloc (.cells #[.int .i64 33, .int .i64 37, .int .i64 40] 3)).alloc (.cells #[.int .i64 36, .int .i64 39, .int .i64 41] 3)) ∧ Nums w (w.heap.size + 1) [36, 39, 41] ((w.alloc (.cells #[.int .i64 33, .int .i64 37, .int .i64 40] 3)).alloc (.cells #[.int .i64 36, .int .i64 39, .int .i64 41] 3))) := Kp.mk (by
    have h1 := nums_new [33, 37, 40] 3 (Below.refl w.heap.size w)
    have h2 := nums_new [36, 39, 41] 3 h1.below
    rw [World.size_alloc] at h2
    exact ⟨h1.step ((Below.refl (w.alloc (.cells #[.int .i64 33, .int .i64 37, .int .i64 40] 3)).heap.size _).alloc (Nat.le_refl _) (.cells #[.int .i64 36, .int .i64 39, .int .i64 41] 3)), h2⟩)
  go_enter Tryd.func5, Tryd.ntmps5
  go_wp2_with fail
  refine (i1.out _).mono ?_
  rintro e w' ⟨rfl, rfl⟩
  go_upto_region 5 with fail
  generalize ((w.alloc (.cells #[.int .i64 33, .int .i64 37, .int .i64 40] 3)).alloc (.cells #[.int .i64 36, .int .i64 39, .int .i64 41] 3)) = w0 at *
  have HF := Kp.mk HQ.out.1
  have HL := Kp.mk HQ.out.2
  have HG := Kp.mk (Nat.le_refl w.heap.size)
  clear HQ
  generalize hg0 : w.heap.size = g0 at HF HL ⊢
  clear hg0
  go_wp2_with fail
  go_loopw [7] (fun i wr => ∃ k : Nat, k ≤ 3 ∧ i = .int .i64 k ∧ Kp (Nums w g0 [33, 37, 40] wr) ∧ Kp (Nums w (g0 + 1) [36, 39, 41] wr)) (fun i _ => 3 - (intOf i).toNat)
  case atStart => exact ⟨0, by omega, rfl, HF, HL⟩
  case round =>
    obtain ⟨k, hk, rfl, HF, HL⟩ := hrel
    rcases (show k = 0 ∨ k = 1 ∨ k = 2 ∨ k = 3 by omega) with rfl | rfl | rfl | rfl
    · have n0 : wr.cell? ⟨g0, 0, none⟩ = some (.int .i64 33) := HF.out.ints 0 (by decide)
      have HM := Kp.mk (And.intro HF.out HL.out)
      go_wp2_with fail
      refine (r1.out _).mono ?_
      rintro e w' ⟨rfl, rfl⟩
      go_wp2_with fail
      clear n0
      go_loopw [8, 9] (fun dv cv wr => ∃ j : Nat, j ≤ 4 ∧ cv = .int .i64 (33 + (j : Int)) ∧ dv = .int .i64 (Sm y (3 * (j : Int) + 1)) ∧ Kp (Nums w g0 [33, 37, 40] wr) ∧ Kp (Nums w (g0 + 1) [36, 39, 41] wr)) (fun _ cv _ => (37 - intOf cv).toNat)
      case atStart => exact ⟨0, by omega, rfl, by rw [show (3 : Int) * ((0 : Nat) : Int) + 1 = 1 by decide, HS1.out], Kp.mk HM.out.1, Kp.mk HM.out.2⟩
      case round =>
        obtain ⟨j, hj, rfl, rfl, HF, HL⟩ := hrel
        have n1 : wr.cell? ⟨g0 + 1, 0, none⟩ = some (.int .i64 36) := HL.out.ints 0 (by decide)
        obtain ⟨a, ha⟩ : ∃ a, Sm y (3 * (j : Int) + 1) = a := ⟨_, rfl⟩
        rw [ha]
        by_cases hlt : j < 4
        · obtain ⟨b, hb⟩ : ∃ b, Sm y (3 * ((j : Int) + 1) + 1) = b := ⟨_, rfl⟩
          have hbb := HSB.out (3 * ((j : Int) + 1) + 1) (by omega) (by omega)
          rw [hb] at hbb
          have p1 := Kp.mk (fun v hw => pr0.out j hlt v hw)
          rw [ha, hb] at p1
          have w3 : IntKind.i64.wrap b = b := IntWalk.i64_in _ (by omega)
          have w4 : IntKind.i64.wrap (33 + (j : Int) + 1) = 33 + (j : Int) + 1 := IntWalk.i64_in _ (by omega)
          have t1 : 33 + (j : Int) ≤ 36 := by omega
          have HE := Kp.mk (show Sm y (3 * ((j + 1 : Nat) : Int) + 1) = b by rw [← hb]; congr 1)
          clear ha hb hbb
          go_wp2_with fail
          refine (p1.out _ HF.out.below).mono ?_
          rintro e v1 ⟨rfl, hbl⟩
          have HF := Kp.mk (HF.out.step hbl)
          have HL := Kp.mk (HL.out.step hbl)
          clear hbl n1
          go_upto_region 13 with fail
          have HX := Kp.mk (rb_new a (b - 1) 32 HF.out.below)
          have hbl := (Below.refl v1.heap.size v1).alloc (Nat.le_refl _) (.cells #[.int .i8 0, .int .i64 a, .int .i8 0, .int .i64 (b - 1)] 32)
          have HF := Kp.mk (HF.out.step hbl)
          have HL := Kp.mk (HL.out.step hbl)
          clear hbl
          generalize v1.alloc (.cells #[.int .i8 0, .int .i64 a, .int .i8 0, .int .i64 (b - 1)] 32) = v2 at *
          generalize v1.heap.size = g1 at *
          have k1 := HX.out.c1
          have k3 := HX.out.c3
          go_wp2_with fail
          go_roundw
          case rel => exact ⟨j + 1, by omega, by go_num, by rw [HE.out], HF, HL⟩
          case measure => simp [intOf]; omega
        · obtain rfl : j = 4 := by omega
          have t1 : ¬ (33 : Int) + ((4 : Nat) : Int) ≤ 36 := by decide
          obtain rfl : t = a := by rw [← ha, ← HT.out]; rfl
          clear ha hj hlt
          go_wp2_with fail
          refine (r1.out _).mono ?_
          rintro e w' ⟨rfl, rfl⟩
          go_wp2_with fail
          refine (r2.out _).mono ?_
          rintro e w' ⟨rfl, rfl⟩
          go_wp2_with fail
          go_roundw
          case rel => exact ⟨1, by omega, rfl, HF, HL⟩
          case measure => simp [intOf]
    · have n0 : wr.cell? ⟨g0, 1, none⟩ = some (.int .i64 37) := HF.out.ints 1 (by decide)
      have HM := Kp.mk (And.intro HF.out HL.out)
      go_wp2_with fail
      refine (r1.out _).mono ?_
      rintro e w' ⟨rfl, rfl⟩
      go_wp2_with fail
      clear n0
      go_loopw [8, 9] (fun dv cv wr => ∃ j : Nat, j ≤ 3 ∧ cv = .int .i64 (37 + (j : Int)) ∧ dv = .int .i64 (Sm y (4 * (j : Int) + 1)) ∧ Kp (Nums w g0 [33, 37, 40] wr) ∧ Kp (Nums w (g0 + 1) [36, 39, 41] wr)) (fun _ cv _ => (40 - intOf cv).toNat)
      case atStart => exact ⟨0, by omega, rfl, by rw [show (4 : Int) * ((0 : Nat) : Int) + 1 = 1 by decide, HS1.out], Kp.mk HM.out.1, Kp.mk HM.out.2⟩
      case round =>
        obtain ⟨j, hj, rfl, rfl, HF, HL⟩ := hrel
        have n1 : wr.cell? ⟨g0 + 1, 1, none⟩ = some (.int .i64 39) := HL.out.ints 1 (by decide)
        obtain ⟨a, ha⟩ : ∃ a, Sm y (4 * (j : Int) + 1) = a := ⟨_, rfl⟩
        rw [ha]
        by_cases hlt : j < 3
        · obtain ⟨b, hb⟩ : ∃ b, Sm y (4 * ((j : Int) + 1) + 1) = b := ⟨_, rfl⟩
          have hbb := HSB.out (4 * ((j : Int) + 1) + 1) (by omega) (by omega)
          rw [hb] at hbb
          have p1 := Kp.mk (fun v hw => pr1.out j hlt v hw)
          rw [ha, hb] at p1
          have w3 : IntKind.i64.wrap b = b := IntWalk.i64_in _ (by omega)
          have w4 : IntKind.i64.wrap (37 + (j : Int) + 1) = 37 + (j : Int) + 1 := IntWalk.i64_in _ (by omega)
          have t1 : 37 + (j : Int) ≤ 39 := by omega
          have HE := Kp.mk (show Sm y (4 * ((j + 1 : Nat) : Int) + 1) = b by rw [← hb]; congr 1)
          clear ha hb hbb
          go_wp2_with fail
          refine (p1.out _ HF.out.below).mono ?_
          rintro e v1 ⟨rfl, hbl⟩
          have HF := Kp.mk (HF.out.step hbl)
          have HL := Kp.mk (HL.out.step hbl)
          clear hbl n1
          go_upto_region 13 with fail
          have HX := Kp.mk (rb_new a (b - 1) 32 HF.out.below)
          have hbl := (Below.refl v1.heap.size v1).alloc (Nat.le_refl _) (.cells #[.int .i8 0, .int .i64 a, .int .i8 0, .int .i64 (b - 1)] 32)
          have HF := Kp.mk (HF.out.step hbl)
          have HL := Kp.mk (HL.out.step hbl)
          clear hbl
          generalize v1.alloc (.cells #[.int .i8 0, .int .i64 a, .int .i8 0, .int .i64 (b - 1)] 32) = v2 at *
          generalize v1.heap.size = g1 at *
          have k1 := HX.out.c1
          have k3 := HX.out.c3
          go_wp2_with fail
          go_roundw
          case rel => exact ⟨j + 1, by omega, by go_num, by rw [HE.out], HF, HL⟩
          case measure => simp [intOf]; omega
        · obtain rfl : j = 3 := by omega
          have t1 : ¬ (37 : Int) + ((3 : Nat) : Int) ≤ 39 := by decide
          obtain rfl : t = a := by rw [← ha, ← HT.out]; rfl
          clear ha hj hlt
          go_wp2_with fail
          refine (r1.out _).mono ?_
          rintro e w' ⟨rfl, rfl⟩
          go_wp2_with fail
          refine (r2.out _).mono ?_
          rintro e w' ⟨rfl, rfl⟩
          go_wp2_with fail
          go_roundw
          case rel => exact ⟨2, by omega, rfl, HF, HL⟩
          case measure => simp [intOf]
    · have n0 : wr.cell? ⟨g0, 2, none⟩ = some (.int .i64 40) := HF.out.ints 2 (by decide)
      have HM := Kp.mk (And.intro HF.out HL.out)
      go_wp2_with fail
      refine (r1.out _).mono ?_
      rintro e w' ⟨rfl, rfl⟩
      go_wp2_with fail
      clear n0
      go_loopw [8, 9] (fun dv cv wr => ∃ j : Nat, j ≤ 2 ∧ cv = .int .i64 (40 + (j : Int)) ∧ dv = .int .i64 (Sm y (6 * (j : Int) + 1)) ∧ Kp (Nums w g0 [33, 37, 40] wr) ∧ Kp (Nums w (g0 + 1) [36, 39, 41] wr)) (fun _ cv _ => (42 - intOf cv).toNat)
      case atStart => exact ⟨0, by omega, rfl, by rw [show (6 : Int) * ((0 : Nat) : Int) + 1 = 1 by decide, HS1.out], Kp.mk HM.out.1, Kp.mk HM.out.2⟩
      case round =>
        obtain ⟨j, hj, rfl, rfl, HF, HL⟩ := hrel
        have n1 : wr.cell? ⟨g0 + 1, 2, none⟩ = some (.int .i64 41) := HL.out.ints 2 (by decide)
        obtain ⟨a, ha⟩ : ∃ a, Sm y (6 * (j : Int) + 1) = a := ⟨_, rfl⟩
        rw [ha]
        by_cases hlt : j < 2
        · obtain ⟨b, hb⟩ : ∃ b, Sm y (6 * ((j : Int) + 1) + 1) = b := ⟨_, rfl⟩
          have hbb := HSB.out (6 * ((j : Int) + 1) + 1) (by omega) (by omega)
          rw [hb] at hbb
          have p1 := Kp.mk (fun v hw => pr2.out j hlt v hw)
          rw [ha, hb] at p1
          have w3 : IntKind.i64.wrap b = b := IntWalk.i64_in _ (by omega)
          have w4 : IntKind.i64.wrap (40 + (j : Int) + 1) = 40 + (j : Int) + 1 := IntWalk.i64_in _ (by omega)
          have t1 : 40 + (j : Int) ≤ 41 := by omega
          have HE := Kp.mk (show Sm y (6 * ((j + 1 : Nat) : Int) + 1) = b by rw [← hb]; congr 1)
          clear ha hb hbb
          go_wp2_with fail
          refine (p1.out _ HF.out.below).mono ?_
          rintro e v1 ⟨rfl, hbl⟩
          have HF := Kp.mk (HF.out.step hbl)
          have HL := Kp.mk (HL.out.step hbl)
          clear hbl n1
          go_upto_region 13 with fail
          have HX := Kp.mk (rb_new a (b - 1) 32 HF.out.below)
          have hbl := (Below.refl v1.heap.size v1).alloc (Nat.le_refl _) (.cells #[.int .i8 0, .int .i64 a, .int .i8 0, .int .i64 (b - 1)] 32)
          have HF := Kp.mk (HF.out.step hbl)
          have HL := Kp.mk (HL.out.step hbl)
          clear hbl
          generalize v1.alloc (.cells #[.int .i8 0, .int .i64 a, .int .i8 0, .int .i64 (b - 1)] 32) = v2 at *
          generalize v1.heap.size = g1 at *
          have k1 := HX.out.c1
          have k3 := HX.out.c3
          go_wp2_with fail
          go_roundw
          case rel => exact ⟨j + 1, by omega, by go_num, by rw [HE.out], HF, HL⟩
          case measure => simp [intOf]; omega
        · obtain rfl : j = 2 := by omega
          have t1 : ¬ (40 : Int) + ((2 : Nat) : Int) ≤ 41 := by decide
          obtain rfl : t = a := by rw [← ha, ← HT.out]; rfl
          clear ha hj hlt
          go_wp2_with fail
          refine (r1.out _).mono ?_
          rintro e w' ⟨rfl, rfl⟩
          go_wp2_with fail
          refine (r2.out _).mono ?_
          rintro e w' ⟨rfl, rfl⟩
          go_wp2_with fail
          go_roundw
          case rel => exact ⟨3, by omega, rfl, HF, HL⟩
          case measure => simp [intOf]
    · have HB := Kp.mk (Bl.mk HF.out.below)
      clear HF HL hk pr0 pr1 pr2 r1 r2 HSB HS1 HT w1
      go_wp2_with fail
      refine (i2.out _).mono ?_
      rintro e w' ⟨rfl, rfl⟩
      go_upto_region 21 with fail
      have HR := Kp.mk (rows4_new HB.out.below)
      generalize ((((wr.alloc (.cells #[.int .i64 21, .int .i64 22, .int .i64 23, .int .i64 24] 3)).alloc (.cells #[.int .i64 25, .int .i64 26, .int .i64 27, .int .i64 28] 3)).alloc (.cells #[.int .i64 31, .int .i64 32, .int .i64 29, .int .i64 30] 3)).alloc (.cells #[.slice (some ⟨wr.heap.size, 0, none⟩) 4 4, .slice (some ⟨wr.heap.size + 1, 0, none⟩) 4 4, .slice (some ⟨wr.heap.size + 1 + 1, 0, none⟩) 4 4] 42)) = w4 at *
      generalize wr.heap.size = g4 at *
      clear HB
      go_wp2_with fail
      go_loopw [13] (fun i wr => ∃ k : Nat, k ≤ 3 ∧ i = .int .i64 k ∧ Kp (Rows4 w g4 wr)) (fun i _ => 3 - (intOf i).toNat)
      case atStart => exact ⟨0, by omega, rfl, HR⟩
      case round =>
        obtain ⟨k, hk, rfl, HR⟩ := hrel
        rcases (show k = 0 ∨ k = 1 ∨ k = 2 ∨ k = 3 by omega) with rfl | rfl | rfl | rfl
        · have a0 : wr.cell? ⟨g4 + 1 + 1 + 1, 0, none⟩ = some (.slice (some ⟨g4, 0, none⟩) 4 4) := HR.out.s0
          have a1 : wr.cell? ⟨g4, 0, none⟩ = some (.int .i64 21) := HR.out.r0 0 (by decide)
          go_wp2_with fail
          refine (x0.out _ HR.out.below).mono ?_
          rintro e v1 ⟨rfl, hbl⟩
          have HR := Kp.mk (HR.out.step hbl)
          clear hbl a0 a1
          go_upto_region 25 with fail
          have HX : Kp (RunRow w v1.heap.size q0 e0 (v1.alloc (.cells #[.int .i8 0, .int .i64 q0, .int .i8 0, .int .i64 e0] 32))) := Kp.mk ⟨HR.out.below.alloc HR.out.below.size _, heap_alloc_new _ _⟩
          have HO := Kp.mk (show g4 + 1 + 1 + 1 < v1.heap.size from HR.out.size)
          have hbl := (Below.refl v1.heap.size v1).alloc (Nat.le_refl _) (.cells #[.int .i8 0, .int .i64 q0, .int .i8 0, .int .i64 e0] 32)
          have HR := Kp.mk (HR.out.step hbl)
          clear hbl
          generalize v1.alloc (.cells #[.int .i8 0, .int .i64 q0, .int .i8 0, .int .i64 e0] 32) = v2 at *
          generalize v1.heap.size = g5 at *
          go_wp2_with fail
          go_loopw [16] (fun kv wr => ∃ q h : Int, ((kv = .int .i64 3 ∧ q0 = q) ∨ (kv = .int .i64 2 ∧ q1 = q) ∨ (kv = .int .i64 1 ∧ q2 = q) ∨ (kv = .int .i64 0 ∧ q3 = q) ∨ (kv = .int .i64 (-1) ∧ q4 = q)) ∧ Kp (RunRow w g5 q h wr) ∧ Kp (Rows4 w g4 wr)) (fun kv _ => (intOf kv + 1).toNat)
          case atStart => exact ⟨q0, e0, .inl ⟨rfl, rfl⟩, HX, HR⟩
          case round =>
            obtain ⟨q, h, hq, HX, HR⟩ := hrel
            rcases hq with ⟨rfl, rfl⟩ | ⟨rfl, rfl⟩ | ⟨rfl, rfl⟩ | ⟨rfl, rfl⟩ | ⟨rfl, rfl⟩
            · have a0 : wr.cell? ⟨g4 + 1 + 1 + 1, 0, none⟩ = some (.slice (some ⟨g4, 0, none⟩) 4 4) := HR.out.s0
              have a1 : wr.cell? ⟨g4, 3, none⟩ = some (.int .i64 24) := HR.out.r0 3 (by decide)
              go_wp2_with fail
              refine (y00.out _ HR.out.below).mono ?_
              rintro e v1 ⟨rfl, hbl⟩
              have HR := Kp.mk (HR.out.step hbl)
              have HX := Kp.mk (HX.out.step hbl)
              clear hbl a0 a1
              go_upto_region 29 with fail
              have HY := Kp.mk (rb_new q1 (q0 - 1) 32 HR.out.below)
              have hbl := (Below.refl v1.heap.size v1).alloc (Nat.le_refl _) (.cells #[.int .i8 0, .int .i64 q1, .int .i8 0, .int .i64 (q0 - 1)] 32)
              have HR := Kp.mk (HR.out.step hbl)
              have HX := Kp.mk (HX.out.step hbl)
              clear hbl
              generalize v1.alloc (.cells #[.int .i8 0, .int .i64 q1, .int .i8 0, .int .i64 (q0 - 1)] 32) = v2 at *
              generalize v1.heap.size = g6 at *
              have k0 := HY.out.c0
              have k1 := HY.out.c1
              have k2 := HY.out.c2
              have k3 := HY.out.c3
              have kx : v2.cell? ⟨g5, 1, none⟩ = some (.int .i64 q0) := by rw [cell_of_row v2 g5 1 _ _ _ HX.out.heap]; rfl
              go_wp2_with (first
                | refine wpList_store_row' rfl 32 (.tmp 14) (.tmp 135) rfl g5 #[.int .i8 0, .int .i64 q1, .int .i8 0, .int .i64 (q0 - 1)] rfl rfl 32 #[.int .i8 0, .int .i64 q0, .int .i8 0, .int .i64 h] HX.out.heap infoRun rfl (four_one _ _) ?_)
              have HR := Kp.mk (HR.out.setRow HO.out #[.int .i8 0, .int .i64 q1, .int .i8 0, .int .i64 (q0 - 1)])
              have HX : Kp (RunRow w g5 q1 (q0 - 1) (v2.setRow g5 #[.int .i8 0, .int .i64 q1, .int .i8 0, .int .i64 (q0 - 1)])) := Kp.mk ⟨HR.out.below, setRow_heap _ _ _ _ _ _ HX.out.heap⟩
              clear k0 k1 k2 k3 kx HY
              generalize v2.setRow g5 #[.int .i8 0, .int .i64 q1, .int .i8 0, .int .i64 (q0 - 1)] = v3 at *
              go_roundw
              case rel => exact ⟨q1, q0 - 1, .inr (.inl ⟨rfl, rfl⟩), HX, HR⟩
              case measure => simp [intOf]
            · have a0 : wr.cell? ⟨g4 + 1 + 1 + 1, 0, none⟩ = some (.slice (some ⟨g4, 0, none⟩) 4 4) := HR.out.s0
              have a1 : wr.cell? ⟨g4, 2, none⟩ = some (.int .i64 23) := HR.out.r0 2 (by decide)
              go_wp2_with fail
              refine (y01.out _ HR.out.below).mono ?_
              rintro e v1 ⟨rfl, hbl⟩
              have HR := Kp.mk (HR.out.step hbl)
              have HX := Kp.mk (HX.out.step hbl)
              clear hbl a0 a1
              go_upto_region 29 with fail
              have HY := Kp.mk (rb_new q2 (q1 - 1) 32 HR.out.below)
              have hbl := (Below.refl v1.heap.size v1).alloc (Nat.le_refl _) (.cells #[.int .i8 0, .int .i64 q2, .int .i8 0, .int .i64 (q1 - 1)] 32)
              have HR := Kp.mk (HR.out.step hbl)
              have HX := Kp.mk (HX.out.step hbl)
              clear hbl
              generalize v1.alloc (.cells #[.int .i8 0, .int .i64 q2, .int .i8 0, .int .i64 (q1 - 1)] 32) = v2 at *
              generalize v1.heap.size = g6 at *
              have k0 := HY.out.c0
              have k1 := HY.out.c1
              have k2 := HY.out.c2
              have k3 := HY.out.c3
              have kx : v2.cell? ⟨g5, 1, none⟩ = some (.int .i64 q1) := by rw [cell_of_row v2 g5 1 _ _ _ HX.out.heap]; rfl
              go_wp2_with (first
                | refine wpList_store_row' rfl 32 (.tmp 14) (.tmp 135) rfl g5 #[.int .i8 0, .int .i64 q2, .int .i8 0, .int .i64 (q1 - 1)] rfl rfl 32 #[.int .i8 0, .int .i64 q1, .int .i8 0, .int .i64 h] HX.out.heap infoRun rfl (four_one _ _) ?_)
              have HR := Kp.mk (HR.out.setRow HO.out #[.int .i8 0, .int .i64 q2, .int .i8 0, .int .i64 (q1 - 1)])
              have HX : Kp (RunRow w g5 q2 (q1 - 1) (v2.setRow g5 #[.int .i8 0, .int .i64 q2, .int .i8 0, .int .i64 (q1 - 1)])) := Kp.mk ⟨HR.out.below, setRow_heap _ _ _ _ _ _ HX.out.heap⟩
              clear k0 k1 k2 k3 kx HY
              generalize v2.setRow g5 #[.int .i8 0, .int .i64 q2, .int .i8 0, .int .i64 (q1 - 1)] = v3 at *
              go_roundw
              case rel => exact ⟨q2, q1 - 1, .inr (.inr (.inl ⟨rfl, rfl⟩)), HX, HR⟩
              case measure => simp [intOf]
            · have a0 : wr.cell? ⟨g4 + 1 + 1 + 1, 0, none⟩ = some (.slice (some ⟨g4, 0, none⟩) 4 4) := HR.out.s0
              have a1 : wr.cell? ⟨g4, 1, none⟩ = some (.int .i64 22) := HR.out.r0 1 (by decide)
              go_wp2_with fail
              refine (y02.out _ HR.out.below).mono ?_
              rintro e v1 ⟨rfl, hbl⟩
              have HR := Kp.mk (HR.out.step hbl)
              have HX := Kp.mk (HX.out.step hbl)
              clear hbl a0 a1
              go_upto_region 29 with fail
              have HY := Kp.mk (rb_new q3 (q2 - 1) 32 HR.out.below)
              have hbl := (Below.refl v1.heap.size v1).alloc (Nat.le_refl _) (.cells #[.int .i8 0, .int .i64 q3, .int .i8 0, .int .i64 (q2 - 1)] 32)
              have HR := Kp.mk (HR.out.step hbl)
              have HX := Kp.mk (HX.out.step hbl)
              clear hbl
              generalize v1.alloc (.cells #[.int .i8 0, .int .i64 q3, .int .i8 0, .int .i64 (q2 - 1)] 32) = v2 at *
              generalize v1.heap.size = g6 at *
              have k0 := HY.out.c0
              have k1 := HY.out.c1
              have k2 := HY.out.c2
              have k3 := HY.out.c3
              have kx : v2.cell? ⟨g5, 1, none⟩ = some (.int .i64 q2) := by rw [cell_of_row v2 g5 1 _ _ _ HX.out.heap]; rfl
              go_wp2_with (first
                | refine wpList_store_row' rfl 32 (.tmp 14) (.tmp 135) rfl g5 #[.int .i8 0, .int .i64 q3, .int .i8 0, .int .i64 (q2 - 1)] rfl rfl 32 #[.int .i8 0, .int .i64 q2, .int .i8 0, .int .i64 h] HX.out.heap infoRun rfl (four_one _ _) ?_)
              have HR := Kp.mk (HR.out.setRow HO.out #[.int .i8 0, .int .i64 q3, .int .i8 0, .int .i64 (q2 - 1)])
              have HX : Kp (RunRow w g5 q3 (q2 - 1) (v2.setRow g5 #[.int .i8 0, .int .i64 q3, .int .i8 0, .int .i64 (q2 - 1)])) := Kp.mk ⟨HR.out.below, setRow_heap _ _ _ _ _ _ HX.out.heap⟩
              clear k0 k1 k2 k3 kx HY
              generalize v2.setRow g5 #[.int .i8 0, .int .i64 q3, .int .i8 0, .int .i64 (q2 - 1)] = v3 at *
              go_roundw
              case rel => exact ⟨q3, q2 - 1, .inr (.inr (.inr (.inl ⟨rfl, rfl⟩))), HX, HR⟩
              case measure => simp [intOf]
            · have a0 : wr.cell? ⟨g4 + 1 + 1 + 1, 0, none⟩ = some (.slice (some ⟨g4, 0, none⟩) 4 4) := HR.out.s0
              have a1 : wr.cell? ⟨g4, 0, none⟩ = some (.int .i64 21) := HR.out.r0 0 (by decide)
              go_wp2_with fail
              refine (y03.out _ HR.out.below).mono ?_
              rintro e v1 ⟨rfl, hbl⟩
              have HR := Kp.mk (HR.out.step hbl)
              have HX := Kp.mk (HX.out.step hbl)
              clear hbl a0 a1
              go_upto_region 29 with fail
              have HY := Kp.mk (rb_new q4 (q3 - 1) 32 HR.out.below)
              have hbl := (Below.refl v1.heap.size v1).alloc (Nat.le_refl _) (.cells #[.int .i8 0, .int .i64 q4, .int .i8 0, .int .i64 (q3 - 1)] 32)
              have HR := Kp.mk (HR.out.step hbl)
              have HX := Kp.mk (HX.out.step hbl)
              clear hbl
              generalize v1.alloc (.cells #[.int .i8 0, .int .i64 q4, .int .i8 0, .int .i64 (q3 - 1)] 32) = v2 at *
              generalize v1.heap.size = g6 at *
              have k0 := HY.out.c0
              have k1 := HY.out.c1
              have k2 := HY.out.c2
              have k3 := HY.out.c3
              have kx : v2.cell? ⟨g5, 1, none⟩ = some (.int .i64 q3) := by rw [cell_of_row v2 g5 1 _ _ _ HX.out.heap]; rfl
              go_wp2_with (first
                | refine wpList_store_row' rfl 32 (.tmp 14) (.tmp 135) rfl g5 #[.int .i8 0, .int .i64 q4, .int .i8 0, .int .i64 (q3 - 1)] rfl rfl 32 #[.int .i8 0, .int .i64 q3, .int .i8 0, .int .i64 h] HX.out.heap infoRun rfl (four_one _ _) ?_)
              have HR := Kp.mk (HR.out.setRow HO.out #[.int .i8 0, .int .i64 q4, .int .i8 0, .int .i64 (q3 - 1)])
              have HX : Kp (RunRow w g5 q4 (q3 - 1) (v2.setRow g5 #[.int .i8 0, .int .i64 q4, .int .i8 0, .int .i64 (q3 - 1)])) := Kp.mk ⟨HR.out.below, setRow_heap _ _ _ _ _ _ HX.out.heap⟩
              clear k0 k1 k2 k3 kx HY
              generalize v2.setRow g5 #[.int .i8 0, .int .i64 q4, .int .i8 0, .int .i64 (q3 - 1)] = v3 at *
              go_roundw
              case rel => exact ⟨q4, q3 - 1, .inr (.inr (.inr (.inr (⟨rfl, rfl⟩)))), HX, HR⟩
              case measure => simp [intOf]
            · go_wp2_with fail
              go_roundw
              case rel => exact ⟨1, by omega, rfl, HR⟩
              case measure => simp [intOf]
        · have a0 : wr.cell? ⟨g4 + 1 + 1 + 1, 1, none⟩ = some (.slice (some ⟨g4 + 1, 0, none⟩) 4 4) := HR.out.s1
          have a1 : wr.cell? ⟨g4 + 1, 0, none⟩ = some (.int .i64 25) := HR.out.r1 0 (by decide)
          go_wp2_with fail
          refine (x1.out _ HR.out.below).mono ?_
          rintro e v1 ⟨rfl, hbl⟩
          have HR := Kp.mk (HR.out.step hbl)
          clear hbl a0 a1
          go_upto_region 25 with fail
          have HX : Kp (RunRow w v1.heap.size q0 e0 (v1.alloc (.cells #[.int .i8 0, .int .i64 q0, .int .i8 0, .int .i64 e0] 32))) := Kp.mk ⟨HR.out.below.alloc HR.out.below.size _, heap_alloc_new _ _⟩
          have HO := Kp.mk (show g4 + 1 + 1 + 1 < v1.heap.size from HR.out.size)
          have hbl := (Below.refl v1.heap.size v1).alloc (Nat.le_refl _) (.cells #[.int .i8 0, .int .i64 q0, .int .i8 0, .int .i64 e0] 32)
          have HR := Kp.mk (HR.out.step hbl)
          clear hbl
          generalize v1.alloc (.cells #[.int .i8 0, .int .i64 q0, .int .i8 0, .int .i64 e0] 32) = v2 at *
          generalize v1.heap.size = g5 at *
          go_wp2_with fail
          go_loopw [16] (fun kv wr => ∃ q h : Int, ((kv = .int .i64 3 ∧ q0 = q) ∨ (kv = .int .i64 2 ∧ q1 = q) ∨ (kv = .int .i64 1 ∧ q2 = q) ∨ (kv = .int .i64 0 ∧ q3 = q) ∨ (kv = .int .i64 (-1) ∧ q4 = q)) ∧ Kp (RunRow w g5 q h wr) ∧ Kp (Rows4 w g4 wr)) (fun kv _ => (intOf kv + 1).toNat)
          case atStart => exact ⟨q0, e0, .inl ⟨rfl, rfl⟩, HX, HR⟩
          case round =>
            obtain ⟨q, h, hq, HX, HR⟩ := hrel
            rcases hq with ⟨rfl, rfl⟩ | ⟨rfl, rfl⟩ | ⟨rfl, rfl⟩ | ⟨rfl, rfl⟩ | ⟨rfl, rfl⟩
            · have a0 : wr.cell? ⟨g4 + 1 + 1 + 1, 1, none⟩ = some (.slice (some ⟨g4 + 1, 0, none⟩) 4 4) := HR.out.s1
              have a1 : wr.cell? ⟨g4 + 1, 3, none⟩ = some (.int .i64 28) := HR.out.r1 3 (by decide)
              go_wp2_with fail
              refine (y10.out _ HR.out.below).mono ?_
              rintro e v1 ⟨rfl, hbl⟩
              have HR := Kp.mk (HR.out.step hbl)
              have HX := Kp.mk (HX.out.step hbl)
              clear hbl a0 a1
              go_upto_region 29 with fail
              have HY := Kp.mk (rb_new q1 (q0 - 1) 32 HR.out.below)
              have hbl := (Below.refl v1.heap.size v1).alloc (Nat.le_refl _) (.cells #[.int .i8 0, .int .i64 q1, .int .i8 0, .int .i64 (q0 - 1)] 32)
              have HR := Kp.mk (HR.out.step hbl)
              have HX := Kp.mk (HX.out.step hbl)
              clear hbl
              generalize v1.alloc (.cells #[.int .i8 0, .int .i64 q1, .int .i8 0, .int .i64 (q0 - 1)] 32) = v2 at *
              generalize v1.heap.size = g6 at *
              have k0 := HY.out.c0
              have k1 := HY.out.c1
              have k2 := HY.out.c2
              have k3 := HY.out.c3
              have kx : v2.cell? ⟨g5, 1, none⟩ = some (.int .i64 q0) := by rw [cell_of_row v2 g5 1 _ _ _ HX.out.heap]; rfl
              go_wp2_with (first
                | refine wpList_store_row' rfl 32 (.tmp 14) (.tmp 135) rfl g5 #[.int .i8 0, .int .i64 q1, .int .i8 0, .int .i64 (q0 - 1)] rfl rfl 32 #[.int .i8 0, .int .i64 q0, .int .i8 0, .int .i64 h] HX.out.heap infoRun rfl (four_one _ _) ?_)
              have HR := Kp.mk (HR.out.setRow HO.out #[.int .i8 0, .int .i64 q1, .int .i8 0, .int .i64 (q0 - 1)])
              have HX : Kp (RunRow w g5 q1 (q0 - 1) (v2.setRow g5 #[.int .i8 0, .int .i64 q1, .int .i8 0, .int .i64 (q0 - 1)])) := Kp.mk ⟨HR.out.below, setRow_heap _ _ _ _ _ _ HX.out.heap⟩
              clear k0 k1 k2 k3 kx HY
              generalize v2.setRow g5 #[.int .i8 0, .int .i64 q1, .int .i8 0, .int .i64 (q0 - 1)] = v3 at *
              go_roundw
              case rel => exact ⟨q1, q0 - 1, .inr (.inl ⟨rfl, rfl⟩), HX, HR⟩
              case measure => simp [intOf]
            · have a0 : wr.cell? ⟨g4 + 1 + 1 + 1, 1, none⟩ = some (.slice (some ⟨g4 + 1, 0, none⟩) 4 4) := HR.out.s1
              have a1 : wr.cell? ⟨g4 + 1, 2, none⟩ = some (.int .i64 27) := HR.out.r1 2 (by decide)
              go_wp2_with fail
              refine (y11.out _ HR.out.below).mono ?_
              rintro e v1 ⟨rfl, hbl⟩
              have HR := Kp.mk (HR.out.step hbl)
              have HX := Kp.mk (HX.out.step hbl)
              clear hbl a0 a1
              go_upto_region 29 with fail
              have HY := Kp.mk (rb_new q2 (q1 - 1) 32 HR.out.below)
              have hbl := (Below.refl v1.heap.size v1).alloc (Nat.le_refl _) (.cells #[.int .i8 0, .int .i64 q2, .int .i8 0, .int .i64 (q1 - 1)] 32)
              have HR := Kp.mk (HR.out.step hbl)
              have HX := Kp.mk (HX.out.step hbl)
              clear hbl
              generalize v1.alloc (.cells #[.int .i8 0, .int .i64 q2, .int .i8 0, .int .i64 (q1 - 1)] 32) = v2 at *
              generalize v1.heap.size = g6 at *
              have k0 := HY.out.c0
              have k1 := HY.out.c1
              have k2 := HY.out.c2
              have k3 := HY.out.c3
              have kx : v2.cell? ⟨g5, 1, none⟩ = some (.int .i64 q1) := by rw [cell_of_row v2 g5 1 _ _ _ HX.out.heap]; rfl
              go_wp2_with (first
                | refine wpList_store_row' rfl 32 (.tmp 14) (.tmp 135) rfl g5 #[.int .i8 0, .int .i64 q2, .int .i8 0, .int .i64 (q1 - 1)] rfl rfl 32 #[.int .i8 0, .int .i64 q1, .int .i8 0, .int .i64 h] HX.out.heap infoRun rfl (four_one _ _) ?_)
              have HR := Kp.mk (HR.out.setRow HO.out #[.int .i8 0, .int .i64 q2, .int .i8 0, .int .i64 (q1 - 1)])
              have HX : Kp (RunRow w g5 q2 (q1 - 1) (v2.setRow g5 #[.int .i8 0, .int .i64 q2, .int .i8 0, .int .i64 (q1 - 1)])) := Kp.mk ⟨HR.out.below, setRow_heap _ _ _ _ _ _ HX.out.heap⟩
              clear k0 k1 k2 k3 kx HY
              generalize v2.setRow g5 #[.int .i8 0, .int .i64 q2, .int .i8 0, .int .i64 (q1 - 1)] = v3 at *
              go_roundw
              case rel => exact ⟨q2, q1 - 1, .inr (.inr (.inl ⟨rfl, rfl⟩)), HX, HR⟩
              case measure => simp [intOf]
            · have a0 : wr.cell? ⟨g4 + 1 + 1 + 1, 1, none⟩ = some (.slice (some ⟨g4 + 1, 0, none⟩) 4 4) := HR.out.s1
              have a1 : wr.cell? ⟨g4 + 1, 1, none⟩ = some (.int .i64 26) := HR.out.r1 1 (by decide)
              go_wp2_with fail
              refine (y12.out _ HR.out.below).mono ?_
              rintro e v1 ⟨rfl, hbl⟩
              have HR := Kp.mk (HR.out.step hbl)
              have HX := Kp.mk (HX.out.step hbl)
              clear hbl a0 a1
              go_upto_region 29 with fail
              have HY := Kp.mk (rb_new q3 (q2 - 1) 32 HR.out.below)
              have hbl := (Below.refl v1.heap.size v1).alloc (Nat.le_refl _) (.cells #[.int .i8 0, .int .i64 q3, .int .i8 0, .int .i64 (q2 - 1)] 32)
              have HR := Kp.mk (HR.out.step hbl)
              have HX := Kp.mk (HX.out.step hbl)
              clear hbl
              generalize v1.alloc (.cells #[.int .i8 0, .int .i64 q3, .int .i8 0, .int .i64 (q2 - 1)] 32) = v2 at *
              generalize v1.heap.size = g6 at *
              have k0 := HY.out.c0
              have k1 := HY.out.c1
              have k2 := HY.out.c2
              have k3 := HY.out.c3
              have kx : v2.cell? ⟨g5, 1, none⟩ = some (.int .i64 q2) := by rw [cell_of_row v2 g5 1 _ _ _ HX.out.heap]; rfl
              go_wp2_with (first
                | refine wpList_store_row' rfl 32 (.tmp 14) (.tmp 135) rfl g5 #[.int .i8 0, .int .i64 q3, .int .i8 0, .int .i64 (q2 - 1)] rfl rfl 32 #[.int .i8 0, .int .i64 q2, .int .i8 0, .int .i64 h] HX.out.heap infoRun rfl (four_one _ _) ?_)
              have HR := Kp.mk (HR.out.setRow HO.out #[.int .i8 0, .int .i64 q3, .int .i8 0, .int .i64 (q2 - 1)])
              have HX : Kp (RunRow w g5 q3 (q2 - 1) (v2.setRow g5 #[.int .i8 0, .int .i64 q3, .int .i8 0, .int .i64 (q2 - 1)])) := Kp.mk ⟨HR.out.below, setRow_heap _ _ _ _ _ _ HX.out.heap⟩
              clear k0 k1 k2 k3 kx HY
              generalize v2.setRow g5 #[.int .i8 0, .int .i64 q3, .int .i8 0, .int .i64 (q2 - 1)] = v3 at *
              go_roundw
              case rel => exact ⟨q3, q2 - 1, .inr (.inr (.inr (.inl ⟨rfl, rfl⟩))), HX, HR⟩
              case measure => simp [intOf]
            · have a0 : wr.cell? ⟨g4 + 1 + 1 + 1, 1, none⟩ = some (.slice (some ⟨g4 + 1, 0, none⟩) 4 4) := HR.out.s1
              have a1 : wr.cell? ⟨g4 + 1, 0, none⟩ = some (.int .i64 25) := HR.out.r1 0 (by decide)
              go_wp2_with fail
              refine (y13.out _ HR.out.below).mono ?_
              rintro e v1 ⟨rfl, hbl⟩
              have HR := Kp.mk (HR.out.step hbl)
              have HX := Kp.mk (HX.out.step hbl)
              clear hbl a0 a1
              go_upto_region 29 with fail
              have HY := Kp.mk (rb_new q4 (q3 - 1) 32 HR.out.below)
              have hbl := (Below.refl v1.heap.size v1).alloc (Nat.le_refl _) (.cells #[.int .i8 0, .int .i64 q4, .int .i8 0, .int .i64 (q3 - 1)] 32)
              have HR := Kp.mk (HR.out.step hbl)
              have HX := Kp.mk (HX.out.step hbl)
              clear hbl
              generalize v1.alloc (.cells #[.int .i8 0, .int .i64 q4, .int .i8 0, .int .i64 (q3 - 1)] 32) = v2 at *
              generalize v1.heap.size = g6 at *
              have k0 := HY.out.c0
              have k1 := HY.out.c1
              have k2 := HY.out.c2
              have k3 := HY.out.c3
              have kx : v2.cell? ⟨g5, 1, none⟩ = some (.int .i64 q3) := by rw [cell_of_row v2 g5 1 _ _ _ HX.out.heap]; rfl
              go_wp2_with (first
                | refine wpList_store_row' rfl 32 (.tmp 14) (.tmp 135) rfl g5 #[.int .i8 0, .int .i64 q4, .int .i8 0, .int .i64 (q3 - 1)] rfl rfl 32 #[.int .i8 0, .int .i64 q3, .int .i8 0, .int .i64 h] HX.out.heap infoRun rfl (four_one _ _) ?_)
              have HR := Kp.mk (HR.out.setRow HO.out #[.int .i8 0, .int .i64 q4, .int .i8 0, .int .i64 (q3 - 1)])
              have HX : Kp (RunRow w g5 q4 (q3 - 1) (v2.setRow g5 #[.int .i8 0, .int .i64 q4, .int .i8 0, .int .i64 (q3 - 1)])) := Kp.mk ⟨HR.out.below, setRow_heap _ _ _ _ _ _ HX.out.heap⟩
              clear k0 k1 k2 k3 kx HY
              generalize v2.setRow g5 #[.int .i8 0, .int .i64 q4, .int .i8 0, .int .i64 (q3 - 1)] = v3 at *
              go_roundw
              case rel => exact ⟨q4, q3 - 1, .inr (.inr (.inr (.inr (⟨rfl, rfl⟩)))), HX, HR⟩
              case measure => simp [intOf]
            · go_wp2_with fail
              go_roundw
              case rel => exact ⟨2, by omega, rfl, HR⟩
              case measure => simp [intOf]
        · have a0 : wr.cell? ⟨g4 + 1 + 1 + 1, 2, none⟩ = some (.slice (some ⟨g4 + 1 + 1, 0, none⟩) 4 4) := HR.out.s2
          have a1 : wr.cell? ⟨g4 + 1 + 1, 0, none⟩ = some (.int .i64 31) := HR.out.r2 0 (by decide)
          go_wp2_with fail
          refine (x2.out _ HR.out.below).mono ?_
          rintro e v1 ⟨rfl, hbl⟩
          have HR := Kp.mk (HR.out.step hbl)
          clear hbl a0 a1
          go_upto_region 25 with fail
          have HX : Kp (RunRow w v1.heap.size q0 e0 (v1.alloc (.cells #[.int .i8 0, .int .i64 q0, .int .i8 0, .int .i64 e0] 32))) := Kp.mk ⟨HR.out.below.alloc HR.out.below.size _, heap_alloc_new _ _⟩
          have HO := Kp.mk (show g4 + 1 + 1 + 1 < v1.heap.size from HR.out.size)
          have hbl := (Below.refl v1.heap.size v1).alloc (Nat.le_refl _) (.cells #[.int .i8 0, .int .i64 q0, .int .i8 0, .int .i64 e0] 32)
          have HR := Kp.mk (HR.out.step hbl)
          clear hbl
          generalize v1.alloc (.cells #[.int .i8 0, .int .i64 q0, .int .i8 0, .int .i64 e0] 32) = v2 at *
          generalize v1.heap.size = g5 at *
          go_wp2_with fail
          go_loopw [16] (fun kv wr => ∃ q h : Int, ((kv = .int .i64 3 ∧ q0 = q) ∨ (kv = .int .i64 2 ∧ q1 = q) ∨ (kv = .int .i64 1 ∧ q2 = q) ∨ (kv = .int .i64 0 ∧ q3 = q) ∨ (kv = .int .i64 (-1) ∧ q4 = q)) ∧ Kp (RunRow w g5 q h wr) ∧ Kp (Rows4 w g4 wr)) (fun kv _ => (intOf kv + 1).toNat)
          case atStart => exact ⟨q0, e0, .inl ⟨rfl, rfl⟩, HX, HR⟩
          case round =>
            obtain ⟨q, h, hq, HX, HR⟩ := hrel
            rcases hq with ⟨rfl, rfl⟩ | ⟨rfl, rfl⟩ | ⟨rfl, rfl⟩ | ⟨rfl, rfl⟩ | ⟨rfl, rfl⟩
            · have a0 : wr.cell? ⟨g4 + 1 + 1 + 1, 2, none⟩ = some (.slice (some ⟨g4 + 1 + 1, 0, none⟩) 4 4) := HR.out.s2
              have a1 : wr.cell? ⟨g4 + 1 + 1, 3, none⟩ = some (.int .i64 30) := HR.out.r2 3 (by decide)
              go_wp2_with fail
              refine (y20.out _ HR.out.below).mono ?_
              rintro e v1 ⟨rfl, hbl⟩
              have HR := Kp.mk (HR.out.step hbl)
              have HX := Kp.mk (HX.out.step hbl)
              clear hbl a0 a1
              go_upto_region 29 with fail
              have HY := Kp.mk (rb_new q1 (q0 - 1) 32 HR.out.below)
              have hbl := (Below.refl v1.heap.size v1).alloc (Nat.le_refl _) (.cells #[.int .i8 0, .int .i64 q1, .int .i8 0, .int .i64 (q0 - 1)] 32)
              have HR := Kp.mk (HR.out.step hbl)
              have HX := Kp.mk (HX.out.step hbl)
              clear hbl
              generalize v1.alloc (.cells #[.int .i8 0, .int .i64 q1, .int .i8 0, .int .i64 (q0 - 1)] 32) = v2 at *
              generalize v1.heap.size = g6 at *
              have k0 := HY.out.c0
              have k1 := HY.out.c1
              have k2 := HY.out.c2
              have k3 := HY.out.c3
              have kx : v2.cell? ⟨g5, 1, none⟩ = some (.int .i64 q0) := by rw [cell_of_row v2 g5 1 _ _ _ HX.out.heap]; rfl
              go_wp2_with (first
                | refine wpList_store_row' rfl 32 (.tmp 14) (.tmp 135) rfl g5 #[.int .i8 0, .int .i64 q1, .int .i8 0, .int .i64 (q0 - 1)] rfl rfl 32 #[.int .i8 0, .int .i64 q0, .int .i8 0, .int .i64 h] HX.out.heap infoRun rfl (four_one _ _) ?_)
              have HR := Kp.mk (HR.out.setRow HO.out #[.int .i8 0, .int .i64 q1, .int .i8 0, .int .i64 (q0 - 1)])
              have HX : Kp (RunRow w g5 q1 (q0 - 1) (v2.setRow g5 #[.int .i8 0, .int .i64 q1, .int .i8 0, .int .i64 (q0 - 1)])) := Kp.mk ⟨HR.out.below, setRow_heap _ _ _ _ _ _ HX.out.heap⟩
              clear k0 k1 k2 k3 kx HY
              generalize v2.setRow g5 #[.int .i8 0, .int .i64 q1, .int .i8 0, .int .i64 (q0 - 1)] = v3 at *
              go_roundw
              case rel => exact ⟨q1, q0 - 1, .inr (.inl ⟨rfl, rfl⟩), HX, HR⟩
              case measure => simp [intOf]
            · have a0 : wr.cell? ⟨g4 + 1 + 1 + 1, 2, none⟩ = some (.slice (some ⟨g4 + 1 + 1, 0, none⟩) 4 4) := HR.out.s2
              have a1 : wr.cell? ⟨g4 + 1 + 1, 2, none⟩ = some (.int .i64 29) := HR.out.r2 2 (by decide)
              go_wp2_with fail
              refine (y21.out _ HR.out.below).mono ?_
              rintro e v1 ⟨rfl, hbl⟩
              have HR := Kp.mk (HR.out.step hbl)
              have HX := Kp.mk (HX.out.step hbl)
              clear hbl a0 a1
              go_upto_region 29 with fail
              have HY := Kp.mk (rb_new q2 (q1 - 1) 32 HR.out.below)
              have hbl := (Below.refl v1.heap.size v1).alloc (Nat.le_refl _) (.cells #[.int .i8 0, .int .i64 q2, .int .i8 0, .int .i64 (q1 - 1)] 32)
              have HR := Kp.mk (HR.out.step hbl)
              have HX := Kp.mk (HX.out.step hbl)
              clear hbl
              generalize v1.alloc (.cells #[.int .i8 0, .int .i64 q2, .int .i8 0, .int .i64 (q1 - 1)] 32) = v2 at *
              generalize v1.heap.size = g6 at *
              have k0 := HY.out.c0
              have k1 := HY.out.c1
              have k2 := HY.out.c2
              have k3 := HY.out.c3
              have kx : v2.cell? ⟨g5, 1, none⟩ = some (.int .i64 q1) := by rw [cell_of_row v2 g5 1 _ _ _ HX.out.heap]; rfl
              go_wp2_with (first
                | refine wpList_store_row' rfl 32 (.tmp 14) (.tmp 135) rfl g5 #[.int .i8 0, .int .i64 q2, .int .i8 0, .int .i64 (q1 - 1)] rfl rfl 32 #[.int .i8 0, .int .i64 q1, .int .i8 0, .int .i64 h] HX.out.heap infoRun rfl (four_one _ _) ?_)
              have HR := Kp.mk (HR.out.setRow HO.out #[.int .i8 0, .int .i64 q2, .int .i8 0, .int .i64 (q1 - 1)])
              have HX : Kp (RunRow w g5 q2 (q1 - 1) (v2.setRow g5 #[.int .i8 0, .int .i64 q2, .int .i8 0, .int .i64 (q1 - 1)])) := Kp.mk ⟨HR.out.below, setRow_heap _ _ _ _ _ _ HX.out.heap⟩
              clear k0 k1 k2 k3 kx HY
              generalize v2.setRow g5 #[.int .i8 0, .int .i64 q2, .int .i8 0, .int .i64 (q1 - 1)] = v3 at *
              go_roundw
              case rel => exact ⟨q2, q1 - 1, .inr (.inr (.inl ⟨rfl, rfl⟩)), HX, HR⟩
              case measure => simp [intOf]
            · have a0 : wr.cell? ⟨g4 + 1 + 1 + 1, 2, none⟩ = some (.slice (some ⟨g4 + 1 + 1, 0, none⟩) 4 4) := HR.out.s2
              have a1 : wr.cell? ⟨g4 + 1 + 1, 1, none⟩ = some (.int .i64 32) := HR.out.r2 1 (by decide)
              go_wp2_with fail
              refine (y22.out _ HR.out.below).mono ?_
              rintro e v1 ⟨rfl, hbl⟩
              have HR := Kp.mk (HR.out.step hbl)
              have HX := Kp.mk (HX.out.step hbl)
              clear hbl a0 a1
              go_upto_region 29 with fail
              have HY := Kp.mk (rb_new q3 (q2 - 1) 32 HR.out.below)
              have hbl := (Below.refl v1.heap.size v1).alloc (Nat.le_refl _) (.cells #[.int .i8 0, .int .i64 q3, .int .i8 0, .int .i64 (q2 - 1)] 32)
              have HR := Kp.mk (HR.out.step hbl)
              have HX := Kp.mk (HX.out.step hbl)
              clear hbl
              generalize v1.alloc (.cells #[.int .i8 0, .int .i64 q3, .int .i8 0, .int .i64 (q2 - 1)] 32) = v2 at *
              generalize v1.heap.size = g6 at *
              have k0 := HY.out.c0
              have k1 := HY.out.c1
              have k2 := HY.out.c2
              have k3 := HY.out.c3
              have kx : v2.cell? ⟨g5, 1, none⟩ = some (.int .i64 q2) := by rw [cell_of_row v2 g5 1 _ _ _ HX.out.heap]; rfl
              go_wp2_with (first
                | refine wpList_store_row' rfl 32 (.tmp 14) (.tmp 135) rfl g5 #[.int .i8 0, .int .i64 q3, .int .i8 0, .int .i64 (q2 - 1)] rfl rfl 32 #[.int .i8 0, .int .i64 q2, .int .i8 0, .int .i64 h] HX.out.heap infoRun rfl (four_one _ _) ?_)
              have HR := Kp.mk (HR.out.setRow HO.out #[.int .i8 0, .int .i64 q3, .int .i8 0, .int .i64 (q2 - 1)])
              have HX : Kp (RunRow w g5 q3 (q2 - 1) (v2.setRow g5 #[.int .i8 0, .int .i64 q3, .int .i8 0, .int .i64 (q2 - 1)])) := Kp.mk ⟨HR.out.below, setRow_heap _ _ _ _ _ _ HX.out.heap⟩
              clear k0 k1 k2 k3 kx HY
              generalize v2.setRow g5 #[.int .i8 0, .int .i64 q3, .int .i8 0, .int .i64 (q2 - 1)] = v3 at *
              go_roundw
              case rel => exact ⟨q3, q2 - 1, .inr (.inr (.inr (.inl ⟨rfl, rfl⟩))), HX, HR⟩
              case measure => simp [intOf]
            · have a0 : wr.cell? ⟨g4 + 1 + 1 + 1, 2, none⟩ = some (.slice (some ⟨g4 + 1 + 1, 0, none⟩) 4 4) := HR.out.s2
              have a1 : wr.cell? ⟨g4 + 1 + 1, 0, none⟩ = some (.int .i64 31) := HR.out.r2 0 (by decide)
              go_wp2_with fail
              refine (y23.out _ HR.out.below).mono ?_
              rintro e v1 ⟨rfl, hbl⟩
              have HR := Kp.mk (HR.out.step hbl)
              have HX := Kp.mk (HX.out.step hbl)
              clear hbl a0 a1
              go_upto_region 29 with fail
              have HY := Kp.mk (rb_new q4 (q3 - 1) 32 HR.out.below)
              have hbl := (Below.refl v1.heap.size v1).alloc (Nat.le_refl _) (.cells #[.int .i8 0, .int .i64 q4, .int .i8 0, .int .i64 (q3 - 1)] 32)
              have HR := Kp.mk (HR.out.step hbl)
              have HX := Kp.mk (HX.out.step hbl)
              clear hbl
              generalize v1.alloc (.cells #[.int .i8 0, .int .i64 q4, .int .i8 0, .int .i64 (q3 - 1)] 32) = v2 at *
              generalize v1.heap.size = g6 at *
              have k0 := HY.out.c0
              have k1 := HY.out.c1
              have k2 := HY.out.c2
              have k3 := HY.out.c3
              have kx : v2.cell? ⟨g5, 1, none⟩ = some (.int .i64 q3) := by rw [cell_of_row v2 g5 1 _ _ _ HX.out.heap]; rfl
              go_wp2_with (first
                | refine wpList_store_row' rfl 32 (.tmp 14) (.tmp 135) rfl g5 #[.int .i8 0, .int .i64 q4, .int .i8 0, .int .i64 (q3 - 1)] rfl rfl 32 #[.int .i8 0, .int .i64 q3, .int .i8 0, .int .i64 h] HX.out.heap infoRun rfl (four_one _ _) ?_)
              have HR := Kp.mk (HR.out.setRow HO.out #[.int .i8 0, .int .i64 q4, .int .i8 0, .int .i64 (q3 - 1)])
              have HX : Kp (RunRow w g5 q4 (q3 - 1) (v2.setRow g5 #[.int .i8 0, .int .i64 q4, .int .i8 0, .int .i64 (q3 - 1)])) := Kp.mk ⟨HR.out.below, setRow_heap _ _ _ _ _ _ HX.out.heap⟩
              clear k0 k1 k2 k3 kx HY
              generalize v2.setRow g5 #[.int .i8 0, .int .i64 q4, .int .i8 0, .int .i64 (q3 - 1)] = v3 at *
              go_roundw
              case rel => exact ⟨q4, q3 - 1, .inr (.inr (.inr (.inr (⟨rfl, rfl⟩)))), HX, HR⟩
              case measure => simp [intOf]
            · go_wp2_with fail
              go_roundw
              case rel => exact ⟨3, by omega, rfl, HR⟩
              case measure => simp [intOf]
        · have HB := Kp.mk (Bl.mk HR.out.below)
          clear HR
          go_wp2_with fail
          refine (rl.out _ HB.out.below).mono ?_
          rintro e w9 ⟨rfl, hbl⟩
          have HB := Kp.mk (HB.out.step hbl)
          clear hbl
          go_wp2_with fail
          go_ret
          exact ⟨rfl, HB.out.below⟩
theorem lawParts_any {I : World → Prop} (C : SeaFns I) (y : Int) (w : World) (hI : I w) (y0 : -9223372036854775808 ≤ y) (y1 : y ≤ 9223372036854775807) :
    Calls Tryd.prog 5 #[.int .i64 y] w fun e w' => e = .returned (.bool true) ∧ Below w.heap.size w w' := by
  cases hy : isY y
  · exact lawParts_no C y w hI y0 y1 hy
  · cases hz : isY (y + 1)
    · exact lawParts_last C y w hI y0 y1 hy hz
    · exact lawParts_next C y w hI y0 y1 hy hz
end Go.Proofs.YtnmpejhljdkkgaaDoor
