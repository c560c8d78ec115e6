/-
 DERIVED. CONTRACTS of the reference of layer 8 (ends): Check, Compare, Text, Parse. Split off what mkenref.py, mkenref2.py wrote.
 DERIVED. Runs in blocks, as the walks have them.
 DERIVED. Blocks of a call that puts a run together from two.
-/
import Derived.Test.YteddfolhpoikcaaGreatDoorPR1a
import Derived.Test.YteddfolhpoikcaaGreatDoorPPa
import Derived.Test.YteddfolhpoikcaaGreatDoorPR1b
import Derived.BigQuiet
import Derived.WalkSmall
import Derived.Deep.Cut
namespace Go.Proofs.YteddfolhpoikcaaGreatDoor
open Go.RowKit
set_option maxRecDepth 100000

/-- an end in a block, as every world of a walk has it -/
structure Eb (w : World) (g : Nat) (f d : Int) (W : World) : Prop where
 below : Below w.heap.size w W
 size : g < W.heap.size
 c0 : W.cell? ⟨g, 0, none⟩ = some (.int .i8 f)
 c1 : W.cell? ⟨g, 1, none⟩ = some (.int .i64 d)
theorem Eb.step {w W W' : World} {g : Nat} {f d : Int} (h : Eb w g f d W) (hb : Below W.heap.size W W') : Eb w g f d W' :=
 ⟨h.below.trans (hb.mono h.below.size), by have := hb.size; have := h.size; omega, by rw [hb.cell (p := ⟨g, 0, none⟩) h.size]; exact h.c0, by rw [hb.cell (p := ⟨g, 1, none⟩) h.size]; exact h.c1⟩
theorem eb_new {w W : World} (f d : Int) (t : TypeId) (hb : Below w.heap.size w W) : Eb w W.heap.size f d (W.alloc (.cells #[.int .i8 f, .int .i64 d] t)) :=
 ⟨hb.alloc hb.size _, by simp, by rw [World.cell?_alloc_new]; rfl, by rw [World.cell?_alloc_new]; rfl⟩
theorem eb_two (w : World) (f d g e : Int) : Eb w w.heap.size f d ((w.alloc (.cells #[.int .i8 f, .int .i64 d] 24)).alloc (.cells #[.int .i8 g, .int .i64 e] 24)) ∧ Eb w (w.heap.size + 1) g e ((w.alloc (.cells #[.int .i8 f, .int .i64 d] 24)).alloc (.cells #[.int .i8 g, .int .i64 e] 24)) := by
 have h1 := eb_new f d 24 (Below.refl w.heap.size w)
 have h2 := eb_new g e 24 h1.below
 rw [World.size_alloc] at h2
 exact ⟨h1.step ((Below.refl (w.alloc (.cells #[.int .i8 f, .int .i64 d] 24)).heap.size _).alloc (Nat.le_refl _) (.cells #[.int .i8 g, .int .i64 e] 24)), h2⟩
theorem infoEnd : (Tryz.prog.info? 24).map (·.size) = some 2 := by kernel_rfl
theorem two_one (f d : Int) : (#[Value.int .i8 f, .int .i64 d] : Array Value).all (·.oneCell') = true := by simp [Value.oneCell']
/-- an end's own block -/
structure ERow (w : World) (g : Nat) (f d : Int) (W : World) : Prop where
 below : Below w.heap.size w W
 base : w.heap.size ≤ g
 heap : W.heap[g]? = some (.cells #[.int .i8 f, .int .i64 d] 24 (0, 0))
theorem ERow.step {w W W' : World} {g : Nat} {f d : Int} (h : ERow w g f d W) (hb : Below W.heap.size W W') : ERow w g f d W' :=
 ⟨h.below.trans (hb.mono h.below.size), h.base, by rw [hb.block g (Array.getElem?_eq_some_iff.1 h.heap).1]; exact h.heap⟩
theorem erow_new {w W : World} (f d : Int) (hb : Below w.heap.size w W) : ERow w W.heap.size f d (W.alloc (.cells #[.int .i8 f, .int .i64 d] 24)) := ⟨hb.alloc hb.size _, hb.size, heap_alloc_new _ _⟩
set_option maxHeartbeats 1000000 in
theorem refEChk_is {f d c : Int} (hc : chkE f d = c) (w : World) :
 Calls Tryz.prog 36 #[.agg #[.int .i8 f, .int .i64 d]] w fun e w' => e = .returned (.int .i64 c) ∧ Below w.heap.size w w' := by
 have HA := Kp.mk (eb_new f d 24 (Below.refl w.heap.size w))
 unfold chkE at hc
 by_cases h0 : f = 0
 ·rw [if_pos (.inl h0)] at hc
  subst hc
  have t1 : (f == 0) = true := by rw [beq_iff_eq]; exact h0
  clear h0
  go_enter Tryz.func36, Tryz.ntmps36
  go_upto_region 1 with fail
  generalize w.alloc (.cells #[.int .i8 f, .int .i64 d] 24) = w0 at *
  have k0 := HA.out.c0
  have k1 := HA.out.c1
  go_wp2_with fail
  go_ret
  exact ⟨rfl, HA.out.below⟩
 ·have t1 : (f == 0) = false := by rw [beq_eq_false_iff_ne]; exact h0
  by_cases h1 : f = 1
  ·have t2 : (f == 1) = true := by rw [beq_iff_eq]; exact h1
   by_cases hd : d = 0
   ·rw [if_pos (.inr ⟨.inl h1, hd⟩)] at hc
    subst hc
    have t4 : (d == 0) = true := by rw [beq_iff_eq]; exact hd
    clear h0 h1 hd
    go_enter Tryz.func36, Tryz.ntmps36
    go_upto_region 1 with fail
    generalize w.alloc (.cells #[.int .i8 f, .int .i64 d] 24) = w0 at *
    have k0 := HA.out.c0
    have k1 := HA.out.c1
    go_wp2_with fail
    go_ret
    exact ⟨rfl, HA.out.below⟩
   ·rw [if_neg (by omega)] at hc
    subst hc
    have t4 : (d == 0) = false := by rw [beq_eq_false_iff_ne]; exact hd
    clear h0 h1 hd
    go_enter Tryz.func36, Tryz.ntmps36
    go_upto_region 1 with fail
    generalize w.alloc (.cells #[.int .i8 f, .int .i64 d] 24) = w0 at *
    have k0 := HA.out.c0
    have k1 := HA.out.c1
    go_wp2_with fail
    go_ret
    exact ⟨rfl, HA.out.below⟩
  ·have t2 : (f == 1) = false := by rw [beq_eq_false_iff_ne]; exact h1
   by_cases h2 : f = -1
   ·have t3 : (f == -1) = true := by rw [beq_iff_eq]; exact h2
    by_cases hd : d = 0
    ·rw [if_pos (.inr ⟨.inr h2, hd⟩)] at hc
     subst hc
     have t4 : (d == 0) = true := by rw [beq_iff_eq]; exact hd
     clear h0 h1 h2 hd
     go_enter Tryz.func36, Tryz.ntmps36
     go_upto_region 1 with fail
     generalize w.alloc (.cells #[.int .i8 f, .int .i64 d] 24) = w0 at *
     have k0 := HA.out.c0
     have k1 := HA.out.c1
     go_wp2_with fail
     go_ret
     exact ⟨rfl, HA.out.below⟩
    ·rw [if_neg (by omega)] at hc
     subst hc
     have t4 : (d == 0) = false := by rw [beq_eq_false_iff_ne]; exact hd
     clear h0 h1 h2 hd
     go_enter Tryz.func36, Tryz.ntmps36
     go_upto_region 1 with fail
     generalize w.alloc (.cells #[.int .i8 f, .int .i64 d] 24) = w0 at *
     have k0 := HA.out.c0
     have k1 := HA.out.c1
     go_wp2_with fail
     go_ret
     exact ⟨rfl, HA.out.below⟩
   ·rw [if_neg (by omega)] at hc
    subst hc
    have t3 : (f == -1) = false := by rw [beq_eq_false_iff_ne]; exact h2
    clear h0 h1 h2
    go_enter Tryz.func36, Tryz.ntmps36
    go_upto_region 1 with fail
    generalize w.alloc (.cells #[.int .i8 f, .int .i64 d] 24) = w0 at *
    have k0 := HA.out.c0
    have k1 := HA.out.c1
    go_wp2_with fail
    go_ret
    exact ⟨rfl, HA.out.below⟩
set_option maxHeartbeats 1000000 in
theorem refECmp_is {f d g e v : Int} (hv : cmpE f d g e = v) (w : World) :
 Calls Tryz.prog 37 #[.agg #[.int .i8 f, .int .i64 d], .agg #[.int .i8 g, .int .i64 e]] w fun x w' => x = .returned (.int .i64 v) ∧ Below w.heap.size w w' := by
 have HA := Kp.mk (eb_two w f d g e).1
 have HC := Kp.mk (eb_two w f d g e).2
 unfold cmpE at hv
 rcases cmpI_cases f g with ⟨h, h1⟩ | ⟨h, h1⟩ | ⟨h, h1⟩
 ·rw [h1, if_neg (by decide)] at hv
  subst hv
  clear h1
  go_enter Tryz.func37, Tryz.ntmps37
  go_upto_region 1 with fail
  generalize (w.alloc (.cells #[.int .i8 f, .int .i64 d] 24)).alloc (.cells #[.int .i8 g, .int .i64 e] 24) = w0 at *
  have k0 := HA.out.c0
  have k1 := HA.out.c1
  have k2 := HC.out.c0
  have k3 := HC.out.c1
  go_wp2_with fail
  go_ret
  exact ⟨rfl, HA.out.below⟩
 ·rw [h1, if_pos rfl] at hv
  have t1 : ¬ f < g := by omega
  have t2 : ¬ g < f := by omega
  clear h h1
  rcases cmpI_cases d e with ⟨h, h1⟩ | ⟨h, h1⟩ | ⟨h, h1⟩
  ·rw [h1] at hv
   subst hv
   clear h1
   go_enter Tryz.func37, Tryz.ntmps37
   go_upto_region 1 with fail
   generalize (w.alloc (.cells #[.int .i8 f, .int .i64 d] 24)).alloc (.cells #[.int .i8 g, .int .i64 e] 24) = w0 at *
   have k0 := HA.out.c0
   have k1 := HA.out.c1
   have k2 := HC.out.c0
   have k3 := HC.out.c1
   go_wp2_with fail
   go_ret
   exact ⟨rfl, HA.out.below⟩
  ·rw [h1] at hv
   subst hv
   have t3 : ¬ d < e := by omega
   have t4 : ¬ e < d := by omega
   clear h h1
   go_enter Tryz.func37, Tryz.ntmps37
   go_upto_region 1 with fail
   generalize (w.alloc (.cells #[.int .i8 f, .int .i64 d] 24)).alloc (.cells #[.int .i8 g, .int .i64 e] 24) = w0 at *
   have k0 := HA.out.c0
   have k1 := HA.out.c1
   have k2 := HC.out.c0
   have k3 := HC.out.c1
   go_wp2_with fail
   go_ret
   exact ⟨rfl, HA.out.below⟩
  ·rw [h1] at hv
   subst hv
   have t3 : ¬ d < e := by omega
   clear h1
   go_enter Tryz.func37, Tryz.ntmps37
   go_upto_region 1 with fail
   generalize (w.alloc (.cells #[.int .i8 f, .int .i64 d] 24)).alloc (.cells #[.int .i8 g, .int .i64 e] 24) = w0 at *
   have k0 := HA.out.c0
   have k1 := HA.out.c1
   have k2 := HC.out.c0
   have k3 := HC.out.c1
   go_wp2_with fail
   go_ret
   exact ⟨rfl, HA.out.below⟩
 ·rw [h1, if_neg (by decide)] at hv
  subst hv
  have t1 : ¬ f < g := by omega
  clear h1
  go_enter Tryz.func37, Tryz.ntmps37
  go_upto_region 1 with fail
  generalize (w.alloc (.cells #[.int .i8 f, .int .i64 d] 24)).alloc (.cells #[.int .i8 g, .int .i64 e] 24) = w0 at *
  have k0 := HA.out.c0
  have k1 := HA.out.c1
  have k2 := HC.out.c0
  have k3 := HC.out.c1
  go_wp2_with fail
  go_ret
  exact ⟨rfl, HA.out.below⟩
theorem refOf_bs {d : Int} (d0 : -9223372036854775808 ≤ d) (d1 : d ≤ 9223372036854775807) (w : World) : Calls Tryz.prog 58 #[.int .i64 d] w (R1.SomeNum d w []) := R1.of_any d w d0 d1
theorem form_len {l : List UInt8} (h : Form l) : (dg (textVal l).natAbs).length ≤ 1000 ∨ 900 < l.length := by
 by_cases hl : l.length ≤ 900
 ·left
  have h1 := R1.itoa_again l h
  by_cases h0 : textVal l = 0
  ·rw [h0]; simp [dg_zero]
  ·have h2 := R1.itoa_textL (textVal l) h0
   rw [h1] at h2
   have h3 := congrArg List.length h2
   simp [R1.textL] at h3
   omega
 ·right; omega
theorem bs_toListE (l : List UInt8) : (bs l).toList = l := by rw [ByteArray.toList_eq]; unfold bs; simp
set_option maxHeartbeats 1000000 in
theorem refEText_is {f d : Int} (d0 : -9223372036854775808 ≤ d) (d1 : d ≤ 9223372036854775807) (w : World) :
 Calls Tryz.prog 66 #[.agg #[.int .i8 f, .int .i64 d]] w fun x w' => x = .returned (.string (bs (textE f d))) ∧ Below w.heap.size w w' := by
 have HA := Kp.mk (eb_new f d 24 (Below.refl w.heap.size w))
 by_cases h1 : f < 0
 ·have HT := Kp.mk (show textE f d = minfL by unfold textE; rw [if_pos h1])
  clear d0 d1
  go_enter Tryz.func66, Tryz.ntmps66
  go_upto_region 1 with fail
  generalize w.alloc (.cells #[.int .i8 f, .int .i64 d] 24) = w0 at *
  have k0 := HA.out.c0
  have k1 := HA.out.c1
  go_wp2_with fail
  go_ret
  exact ⟨by rw [HT.out]; rfl, HA.out.below⟩
 ·by_cases h2 : 0 < f
  ·have HT := Kp.mk (show textE f d = infL by unfold textE; rw [if_neg h1, if_pos h2])
   clear d0 d1
   go_enter Tryz.func66, Tryz.ntmps66
   go_upto_region 1 with fail
   generalize w.alloc (.cells #[.int .i8 f, .int .i64 d] 24) = w0 at *
   have k0 := HA.out.c0
   have k1 := HA.out.c1
   go_wp2_with fail
   go_ret
   exact ⟨by rw [HT.out]; rfl, HA.out.below⟩
  ·have HT := Kp.mk (show textE f d = Lib.itoa d by unfold textE; rw [if_neg h1, if_neg h2])
   have r1 := Kp.mk (fun w => refOf_bs d0 d1 w)
   have HL := Kp.mk (R1.len_i64 d d0 d1)
   clear d0 d1
   go_enter Tryz.func66, Tryz.ntmps66
   go_upto_region 1 with fail
   generalize w.alloc (.cells #[.int .i8 f, .int .i64 d] 24) = w0 at *
   have k0 := HA.out.c0
   have k1 := HA.out.c1
   go_wp2_with fail
   refine (r1.out _).mono ?_
   rintro e w1 ⟨⟨a, cap, rfl, hd, _⟩, hbl⟩
   have HA := Kp.mk (HA.out.step hbl)
   have HD := Kp.mk hd
   clear hbl hd k0 k1
   go_wp2_with fail
   refine (R1.ref_text d _ _ HD.out HL.out).mono ?_
   rintro e w2 ⟨rfl, hbl⟩
   have HA := Kp.mk (HA.out.step hbl)
   clear hbl
   go_wp2_with fail
   go_ret
   exact ⟨by rw [HT.out]; rfl, HA.out.below⟩
set_option maxHeartbeats 1000000 in
theorem refEPar_inf {l : List UInt8} (h : l = infL) (w : World) : Calls Tryz.prog 67 #[.string (bs l)] w fun x w' => x = .returned (.tuple #[.agg #[.int .i8 1, .int .i64 0], .int .i64 0]) ∧ Below w.heap.size w w' := by
 have HR := Kp.mk (erow_new 0 0 (Below.refl w.heap.size w))
 have t1 : ((bs l).toList == [105, 110, 102]) = true := by rw [bs_toListE, h]; decide
 clear h
 go_enter Tryz.func67, Tryz.ntmps67
 go_upto_region 1 with fail
 generalize w.alloc (.cells #[.int .i8 0, .int .i64 0] 24) = w0 at *
 go_wp2_with (first
  | refine wpList_store_row' rfl 24 (.tmp 2) (.tmp 10) rfl w.heap.size #[.int .i8 1, .int .i64 0] rfl rfl 24 #[.int .i8 0, .int .i64 0] HR.out.heap infoEnd rfl (two_one _ _) ?_)
 refine bodyPost_ret (results_cell_tmp (p := 2) (ty := 24) rfl _ _ w.heap.size 24 #[.int .i8 1, .int .i64 0] (0, 0) _ rfl (setRow_heap _ _ _ _ _ _ HR.out.heap) Tryz.underlying24 rfl infoEnd) rfl ?_
 exact ⟨rfl, below_setRow HR.out.below HR.out.base _⟩
set_option maxHeartbeats 1000000 in
theorem refEPar_minf {l : List UInt8} (h : l = minfL) (w : World) : Calls Tryz.prog 67 #[.string (bs l)] w fun x w' => x = .returned (.tuple #[.agg #[.int .i8 (-1), .int .i64 0], .int .i64 0]) ∧ Below w.heap.size w w' := by
 have HR := Kp.mk (erow_new 0 0 (Below.refl w.heap.size w))
 have t1 : ((bs l).toList == [105, 110, 102]) = false := by rw [bs_toListE, h]; decide
 have t2 : ((bs l).toList == [45, 105, 110, 102]) = true := by rw [bs_toListE, h]; decide
 clear h
 go_enter Tryz.func67, Tryz.ntmps67
 go_upto_region 1 with fail
 generalize w.alloc (.cells #[.int .i8 0, .int .i64 0] 24) = w0 at *
 go_wp2_with (first
  | refine wpList_store_row' rfl 24 (.tmp 2) (.tmp 13) rfl w.heap.size #[.int .i8 (-1), .int .i64 0] rfl rfl 24 #[.int .i8 0, .int .i64 0] HR.out.heap infoEnd rfl (two_one _ _) ?_)
 refine bodyPost_ret (results_cell_tmp (p := 2) (ty := 24) rfl _ _ w.heap.size 24 #[.int .i8 (-1), .int .i64 0] (0, 0) _ rfl (setRow_heap _ _ _ _ _ _ HR.out.heap) Tryz.underlying24 rfl infoEnd) rfl ?_
 exact ⟨rfl, below_setRow HR.out.below HR.out.base _⟩
set_option maxHeartbeats 1000000 in
theorem refEPar_no {l : List UInt8} (hl : l.length ≤ 900) (h1 : ¬ l = infL) (h2 : ¬ l = minfL) (h : ¬ Form l) (w : World) : Calls Tryz.prog 67 #[.string (bs l)] w fun x w' => x = .returned (.tuple #[.agg #[.int .i8 0, .int .i64 0], .int .i64 5]) ∧ Below w.heap.size w w' := by
 have HR := Kp.mk (erow_new 0 0 (Below.refl w.heap.size w))
 have t1 : ((bs l).toList == [105, 110, 102]) = false := by rw [bs_toListE, beq_eq_false_iff_ne]; exact h1
 have t2 : ((bs l).toList == [45, 105, 110, 102]) = false := by rw [bs_toListE, beq_eq_false_iff_ne]; exact h2
 have r1 : Kp (∀ w, Calls Tryz.prog 82 #[.string (bs l)] w (R1.Refused w)) := Kp.mk (fun w => R1.ref_parse_no l (by omega) h w)
 clear hl h h1 h2
 go_enter Tryz.func67, Tryz.ntmps67
 go_upto_region 1 with fail
 generalize w.alloc (.cells #[.int .i8 0, .int .i64 0] 24) = w0 at *
 go_wp2_with fail
 refine (r1.out _).mono ?_
 rintro e w1 ⟨rfl, hbl⟩
 have HR := Kp.mk (HR.out.step hbl)
 clear hbl
 go_upto_region 6 with fail
 have hbl := (Below.refl w1.heap.size w1).alloc (Nat.le_refl _) (.cells #[.bool false, .slice none 0 0] R1.NT)
 have HR := Kp.mk (HR.out.step hbl)
 clear hbl
 generalize w1.alloc (.cells #[.bool false, .slice none 0 0] R1.NT) = w2 at *
 go_wp2_with (first
  | refine wpList_store_row' rfl 24 (.tmp 2) (.tmp 21) rfl w.heap.size #[.int .i8 0, .int .i64 0] rfl rfl 24 #[.int .i8 0, .int .i64 0] HR.out.heap infoEnd rfl (two_one _ _) ?_)
 refine bodyPost_ret (results_cell_tmp (p := 2) (ty := 24) rfl _ _ w.heap.size 24 #[.int .i8 0, .int .i64 0] (0, 0) _ rfl (setRow_heap _ _ _ _ _ _ HR.out.heap) Tryz.underlying24 rfl infoEnd) rfl ?_
 exact ⟨rfl, below_setRow HR.out.below HR.out.base _⟩
set_option maxHeartbeats 1000000 in
theorem refEPar_fits {l : List UInt8} (hl : l.length ≤ 900) (h1 : ¬ l = infL) (h2 : ¬ l = minfL) (h : Form l) (h4 : -9223372036854775808 ≤ textVal l ∧ textVal l ≤ 9223372036854775807) (w : World) : Calls Tryz.prog 67 #[.string (bs l)] w fun x w' => x = .returned (.tuple #[.agg #[.int .i8 0, .int .i64 (textVal l)], .int .i64 0]) ∧ Below w.heap.size w w' := by
 have HR := Kp.mk (erow_new 0 0 (Below.refl w.heap.size w))
 have t1 : ((bs l).toList == [105, 110, 102]) = false := by rw [bs_toListE, beq_eq_false_iff_ne]; exact h1
 have t2 : ((bs l).toList == [45, 105, 110, 102]) = false := by rw [bs_toListE, beq_eq_false_iff_ne]; exact h2
 obtain ⟨x, hx⟩ : ∃ x, textVal l = x := ⟨_, rfl⟩
 have hlen : (dg (textVal l).natAbs).length ≤ 1000 := by rcases form_len h with q | q; exact q; omega
 rw [hx] at hlen h4 ⊢
 have r1 : Kp (∀ w, Calls Tryz.prog 82 #[.string (bs l)] w (R1.ReadAs x w)) := Kp.mk (fun w => by have := R1.ref_parse_yes l (by omega) h w; rw [hx] at this; exact this)
 have r2 : Kp (∀ va w, R1.Digs w va (dg x.natAbs) → Calls Tryz.prog 56 #[.agg #[.bool (decide (x < 0)), va]] w fun e w' => e = .returned (.tuple #[.int .i64 x, .bool true]) ∧ Below w.heap.size w w') := Kp.mk (fun va w hd => R1.int_in x va w hd hlen h4.1 h4.2)
 obtain ⟨sg, hsg⟩ : ∃ sg, decide (x < 0) = sg := ⟨_, rfl⟩
 unfold R1.ReadAs at r1
 rw [hsg] at r1 r2
 clear hl h h1 h2 h4 hx hlen hsg
 go_enter Tryz.func67, Tryz.ntmps67
 go_upto_region 1 with fail
 generalize w.alloc (.cells #[.int .i8 0, .int .i64 0] 24) = w0 at *
 go_wp2_with fail
 refine (r1.out _).mono ?_
 rintro e w1 ⟨⟨pa, cap, rfl, hd⟩, hbl⟩
 have HR := Kp.mk (HR.out.step hbl)
 have HD := Kp.mk hd
 clear hbl hd
 generalize (dg x.natAbs).length = n at *
 go_upto_region 6 with fail
 have hbl := (Below.refl w1.heap.size w1).alloc (Nat.le_refl _) (.cells #[.bool sg, .slice pa n cap] R1.NT)
 have HR := Kp.mk (HR.out.step hbl)
 have HD := Kp.mk (HD.out.below hbl)
 have n0 : (w1.alloc (.cells #[.bool sg, .slice pa n cap] R1.NT)).cell? ⟨w1.heap.size, 0, none⟩ = some (.bool sg) := by rw [World.cell?_alloc_new]; rfl
 have n1 : (w1.alloc (.cells #[.bool sg, .slice pa n cap] R1.NT)).cell? ⟨w1.heap.size, 1, none⟩ = some (.slice pa n cap) := by rw [World.cell?_alloc_new]; rfl
 clear hbl
 generalize w1.alloc (.cells #[.bool sg, .slice pa n cap] R1.NT) = w2 at *
 generalize w1.heap.size = g1 at *
 go_wp2_with fail
 refine (r2.out _ _ HD.out).mono ?_
 rintro e w3 ⟨rfl, hbl⟩
 have HR := Kp.mk (HR.out.step hbl)
 clear hbl n0 n1
 go_wp2_with (first
  | refine wpList_store_row' rfl 24 (.tmp 2) (.tmp 31) rfl w.heap.size #[.int .i8 0, .int .i64 x] rfl rfl 24 #[.int .i8 0, .int .i64 0] HR.out.heap infoEnd rfl (two_one _ _) ?_)
 refine bodyPost_ret (results_cell_tmp (p := 2) (ty := 24) rfl _ _ w.heap.size 24 #[.int .i8 0, .int .i64 x] (0, 0) _ rfl (setRow_heap _ _ _ _ _ _ HR.out.heap) Tryz.underlying24 rfl infoEnd) rfl ?_
 exact ⟨rfl, below_setRow HR.out.below HR.out.base _⟩
set_option maxHeartbeats 1000000 in
theorem refEPar_over {l : List UInt8} (hl : l.length ≤ 900) (h1 : ¬ l = infL) (h2 : ¬ l = minfL) (h : Form l) (h4 : ¬ (-9223372036854775808 ≤ textVal l ∧ textVal l ≤ 9223372036854775807)) (w : World) : Calls Tryz.prog 67 #[.string (bs l)] w fun x w' => x = .returned (.tuple #[.agg #[.int .i8 0, .int .i64 0], .int .i64 15]) ∧ Below w.heap.size w w' := by
 have HR := Kp.mk (erow_new 0 0 (Below.refl w.heap.size w))
 have t1 : ((bs l).toList == [105, 110, 102]) = false := by rw [bs_toListE, beq_eq_false_iff_ne]; exact h1
 have t2 : ((bs l).toList == [45, 105, 110, 102]) = false := by rw [bs_toListE, beq_eq_false_iff_ne]; exact h2
 obtain ⟨x, hx⟩ : ∃ x, textVal l = x := ⟨_, rfl⟩
 have hlen : (dg (textVal l).natAbs).length ≤ 1000 := by rcases form_len h with q | q; exact q; omega
 rw [hx] at hlen h4
 have r1 : Kp (∀ w, Calls Tryz.prog 82 #[.string (bs l)] w (R1.ReadAs x w)) := Kp.mk (fun w => by have := R1.ref_parse_yes l (by omega) h w; rw [hx] at this; exact this)
 have r2 : Kp (∀ va w, R1.Digs w va (dg x.natAbs) → Calls Tryz.prog 56 #[.agg #[.bool (decide (x < 0)), va]] w fun e w' => e = .returned (.tuple #[.int .i64 0, .bool false]) ∧ Below w.heap.size w w') := Kp.mk (fun va w hd => R1.int_out x va w hd hlen h4)
 obtain ⟨sg, hsg⟩ : ∃ sg, decide (x < 0) = sg := ⟨_, rfl⟩
 unfold R1.ReadAs at r1
 rw [hsg] at r1 r2
 clear hl h h1 h2 h4 hx hlen hsg
 go_enter Tryz.func67, Tryz.ntmps67
 go_upto_region 1 with fail
 generalize w.alloc (.cells #[.int .i8 0, .int .i64 0] 24) = w0 at *
 go_wp2_with fail
 refine (r1.out _).mono ?_
 rintro e w1 ⟨⟨pa, cap, rfl, hd⟩, hbl⟩
 have HR := Kp.mk (HR.out.step hbl)
 have HD := Kp.mk hd
 clear hbl hd
 generalize (dg x.natAbs).length = n at *
 go_upto_region 6 with fail
 have hbl := (Below.refl w1.heap.size w1).alloc (Nat.le_refl _) (.cells #[.bool sg, .slice pa n cap] R1.NT)
 have HR := Kp.mk (HR.out.step hbl)
 have HD := Kp.mk (HD.out.below hbl)
 have n0 : (w1.alloc (.cells #[.bool sg, .slice pa n cap] R1.NT)).cell? ⟨w1.heap.size, 0, none⟩ = some (.bool sg) := by rw [World.cell?_alloc_new]; rfl
 have n1 : (w1.alloc (.cells #[.bool sg, .slice pa n cap] R1.NT)).cell? ⟨w1.heap.size, 1, none⟩ = some (.slice pa n cap) := by rw [World.cell?_alloc_new]; rfl
 clear hbl
 generalize w1.alloc (.cells #[.bool sg, .slice pa n cap] R1.NT) = w2 at *
 generalize w1.heap.size = g1 at *
 go_wp2_with fail
 refine (r2.out _ _ HD.out).mono ?_
 rintro e w3 ⟨rfl, hbl⟩
 have HR := Kp.mk (HR.out.step hbl)
 clear hbl n0 n1
 go_wp2_with (first
  | refine wpList_store_row' rfl 24 (.tmp 2) (.tmp 29) rfl w.heap.size #[.int .i8 0, .int .i64 0] rfl rfl 24 #[.int .i8 0, .int .i64 0] HR.out.heap infoEnd rfl (two_one _ _) ?_)
 refine bodyPost_ret (results_cell_tmp (p := 2) (ty := 24) rfl _ _ w.heap.size 24 #[.int .i8 0, .int .i64 0] (0, 0) _ rfl (setRow_heap _ _ _ _ _ _ HR.out.heap) Tryz.underlying24 rfl infoEnd) rfl ?_
 exact ⟨rfl, below_setRow HR.out.below HR.out.base _⟩
theorem refEPar_is {l : List UInt8} {f d c : Int} (hl : l.length ≤ 900) (h : ParE l f d c) (w : World) :
 Calls Tryz.prog 67 #[.string (bs l)] w fun x w' => x = .returned (.tuple #[.agg #[.int .i8 f, .int .i64 d], .int .i64 c]) ∧ Below w.heap.size w w' := by
 by_cases h1 : l = infL
 ·obtain ⟨rfl, rfl, rfl⟩ := h.inf h1; exact refEPar_inf h1 w
 ·by_cases h2 : l = minfL
  ·obtain ⟨rfl, rfl, rfl⟩ := h.minf h2; exact refEPar_minf h2 w
  ·by_cases h3 : Form l
   ·by_cases h4 : -9223372036854775808 ≤ textVal l ∧ textVal l ≤ 9223372036854775807
    ·obtain ⟨rfl, rfl, rfl⟩ := h.fits h1 h2 h3 h4; exact refEPar_fits hl h1 h2 h3 h4 w
    ·obtain ⟨rfl, rfl, rfl⟩ := h.over h1 h2 h3 h4; exact refEPar_over hl h1 h2 h3 h4 w
   ·obtain ⟨rfl, rfl, rfl⟩ := h.no h1 h2 h3; exact refEPar_no hl h1 h2 h3 w

end Go.Proofs.YteddfolhpoikcaaGreatDoor
namespace Go.Proofs.YteddfolhpoikcaaGreatDoor
open Go.RowKit
set_option maxRecDepth 100000

/-- a run in a block, as every world of a walk has it -/
structure Rg (w : World) (k : Nat) (r : Rn) (W : World) : Prop where
 below : Below w.heap.size w W
 size : k < W.heap.size
 c0 : W.cell? ⟨k, 0, none⟩ = some (.int .i8 r.f)
 c1 : W.cell? ⟨k, 1, none⟩ = some (.int .i64 r.d)
 c2 : W.cell? ⟨k, 2, none⟩ = some (.int .i8 r.g)
 c3 : W.cell? ⟨k, 3, none⟩ = some (.int .i64 r.e)
theorem Rg.step {w W W' : World} {k : Nat} {r : Rn} (h : Rg w k r W) (hb : Below W.heap.size W W') : Rg w k r W' :=
 ⟨h.below.trans (hb.mono h.below.size), by have := hb.size; have := h.size; omega, by rw [hb.cell (p := ⟨k, 0, none⟩) h.size]; exact h.c0, by rw [hb.cell (p := ⟨k, 1, none⟩) h.size]; exact h.c1,
  by rw [hb.cell (p := ⟨k, 2, none⟩) h.size]; exact h.c2, by rw [hb.cell (p := ⟨k, 3, none⟩) h.size]; exact h.c3⟩
theorem rg_new {w W : World} (r : Rn) (t : TypeId) (hb : Below w.heap.size w W) : Rg w W.heap.size r (W.alloc (.cells #[.int .i8 r.f, .int .i64 r.d, .int .i8 r.g, .int .i64 r.e] t)) :=
 ⟨hb.alloc hb.size _, by simp, by rw [World.cell?_alloc_new]; rfl, by rw [World.cell?_alloc_new]; rfl, by rw [World.cell?_alloc_new]; rfl, by rw [World.cell?_alloc_new]; rfl⟩
theorem rg_zero {w W : World} (t : TypeId) (hb : Below w.heap.size w W) : Rg w W.heap.size zeroR (W.alloc (.cells #[.int .i8 0, .int .i64 0, .int .i8 0, .int .i64 0] t)) := rg_new zeroR t hb
theorem rg_two (w : World) (a b : Rn) : Rg w w.heap.size a ((w.alloc (.cells #[.int .i8 a.f, .int .i64 a.d, .int .i8 a.g, .int .i64 a.e] 26)).alloc (.cells #[.int .i8 b.f, .int .i64 b.d, .int .i8 b.g, .int .i64 b.e] 26)) ∧ Rg w (w.heap.size + 1) b ((w.alloc (.cells #[.int .i8 a.f, .int .i64 a.d, .int .i8 a.g, .int .i64 a.e] 26)).alloc (.cells #[.int .i8 b.f, .int .i64 b.d, .int .i8 b.g, .int .i64 b.e] 26)) := by
 have h1 := rg_new a 26 (Below.refl w.heap.size w)
 have h2 := rg_new b 26 h1.below
 rw [World.size_alloc] at h2
 exact ⟨h1.step ((Below.refl (w.alloc (.cells #[.int .i8 a.f, .int .i64 a.d, .int .i8 a.g, .int .i64 a.e] 26)).heap.size _).alloc (Nat.le_refl _) (.cells #[.int .i8 b.f, .int .i64 b.d, .int .i8 b.g, .int .i64 b.e] 26)), h2⟩
theorem bl_of {w W : World} {k : Nat} {r : Rn} (h : Rg w k r W) : Bl w W := ⟨h.below⟩
/-- a run, as a value -/
abbrev rv (r : Rn) : Value := .agg #[.int .i8 r.f, .int .i64 r.d, .int .i8 r.g, .int .i64 r.e]
theorem Rg.cs {w W : World} {k : Nat} {r : Rn} (h : Rg w k r W) : W.cell? ⟨k, 0, none⟩ = some (.int .i8 r.f) ∧ W.cell? ⟨k, 1, none⟩ = some (.int .i64 r.d) ∧ W.cell? ⟨k, 2, none⟩ = some (.int .i8 r.g) ∧ W.cell? ⟨k, 3, none⟩ = some (.int .i64 r.e) := ⟨h.c0, h.c1, h.c2, h.c3⟩
end Go.Proofs.YteddfolhpoikcaaGreatDoor
namespace Go.Proofs.YteddfolhpoikcaaGreatDoor
open Go.RowKit
set_option maxRecDepth 100000

theorem infoRn : (Tryz.prog.info? 26).map (·.size) = some 4 := by kernel_rfl
theorem four_rn (f d g e : Int) : (#[Value.int .i8 f, .int .i64 d, .int .i8 g, .int .i64 e] : Array Value).all (·.oneCell') = true := by simp [Value.oneCell']
/-- a call's own blocks, where a run is put together from two: the second run, the result's block, the run's -/
structure Jn (w : World) (b : Rn) (f d g e : Int) (W : World) : Prop where
 below : Below w.heap.size w W
 b : Rg w (w.heap.size + 1) b W
 z : W.heap[w.heap.size + 1 + 1]? = some (.cells #[.int .i8 0, .int .i64 0, .int .i8 0, .int .i64 0] 26 (0, 0))
 r : W.heap[w.heap.size + 1 + 1 + 1]? = some (.cells #[.int .i8 f, .int .i64 d, .int .i8 g, .int .i64 e] 26 (0, 0))
variable {w W W' : World} {b : Rn} {f d g e : Int}
theorem Jn.step (h : Jn w b f d g e W) (hb : Below W.heap.size W W') : Jn w b f d g e W' :=
 ⟨h.below.trans (hb.mono h.below.size), h.b.step hb, by rw [hb.block _ (Array.getElem?_eq_some_iff.1 h.z).1]; exact h.z, by rw [hb.block _ (Array.getElem?_eq_some_iff.1 h.r).1]; exact h.r⟩
theorem Jn.set (h : Jn w b f d g e W) (j : Nat) (v : Value) {f' d' g' e' : Int} (he : (#[.int .i8 f, .int .i64 d, .int .i8 g, .int .i64 e] : Array Value).setIfInBounds j v = #[.int .i8 f', .int .i64 d', .int .i8 g', .int .i64 e']) : Jn w b f' d' g' e' (W.setCell ⟨w.heap.size + 1 + 1 + 1, j, none⟩ v) := by
 have hn : ∀ (k i : Nat), ¬ k = w.heap.size + 1 + 1 + 1 → (W.setCell ⟨w.heap.size + 1 + 1 + 1, j, none⟩ v).cell? ⟨k, i, none⟩ = W.cell? ⟨k, i, none⟩ := fun k i hk => by
  rw [World.cell?_setCell_other _ _ _ _ (fun q => hk (by have := congrArg Addr.block q; simp at this; omega))]
 have hs : w.heap.size + 1 < (W.setCell ⟨w.heap.size + 1 + 1 + 1, j, none⟩ v).heap.size := by have := h.b.size; simp [World.setCell]; omega
 refine ⟨h.below.setCell (p := ⟨w.heap.size + 1 + 1 + 1, j, none⟩) (by show w.heap.size ≤ w.heap.size + 1 + 1 + 1; omega) v, ⟨h.below.setCell (p := ⟨w.heap.size + 1 + 1 + 1, j, none⟩) (by show w.heap.size ≤ w.heap.size + 1 + 1 + 1; omega) v, hs, ?_, ?_, ?_, ?_⟩, ?_, ?_⟩
 ·rw [hn _ _ (by omega)]; exact h.b.c0
 ·rw [hn _ _ (by omega)]; exact h.b.c1
 ·rw [hn _ _ (by omega)]; exact h.b.c2
 ·rw [hn _ _ (by omega)]; exact h.b.c3
 ·rw [heap_setCell_other W _ _ v (by show w.heap.size + 1 + 1 ≠ w.heap.size + 1 + 1 + 1; omega)]; exact h.z
 ·rw [heap_setCell_same W _ j _ _ v h.r, he]
theorem Jn.lo (h : Jn w b f d g e W) (x y : Int) : Jn w b x y g e ((W.setCell ⟨w.heap.size + 1 + 1 + 1, 0, none⟩ (.int .i8 x)).setCell ⟨w.heap.size + 1 + 1 + 1, 1, none⟩ (.int .i64 y)) :=
 (h.set 0 (.int .i8 x) (f' := x) (d' := d) (g' := g) (e' := e) rfl).set 1 (.int .i64 y) rfl
theorem Jn.hi (h : Jn w b f d g e W) (x y : Int) : Jn w b f d x y ((W.setCell ⟨w.heap.size + 1 + 1 + 1, 2, none⟩ (.int .i8 x)).setCell ⟨w.heap.size + 1 + 1 + 1, 3, none⟩ (.int .i64 y)) :=
 (h.set 2 (.int .i8 x) (f' := f) (d' := d) (g' := x) (e' := e) rfl).set 3 (.int .i64 y) rfl
theorem Jn.cells (h : Jn w b f d g e W) : W.cell? ⟨w.heap.size + 1 + 1 + 1, 0, none⟩ = some (.int .i8 f) ∧ W.cell? ⟨w.heap.size + 1 + 1 + 1, 1, none⟩ = some (.int .i64 d) ∧ W.cell? ⟨w.heap.size + 1 + 1 + 1, 2, none⟩ = some (.int .i8 g) ∧ W.cell? ⟨w.heap.size + 1 + 1 + 1, 3, none⟩ = some (.int .i64 e) :=
 ⟨by rw [cell_of_row W _ 0 _ _ _ h.r]; rfl, by rw [cell_of_row W _ 1 _ _ _ h.r]; rfl, by rw [cell_of_row W _ 2 _ _ _ h.r]; rfl, by rw [cell_of_row W _ 3 _ _ _ h.r]; rfl⟩
theorem Jn.frozen (h : Jn w b f d g e W) (j : Nat) : W.frozen? ⟨w.heap.size + 1 + 1 + 1, j, none⟩ = false := frozen_of_row W _ j _ _ h.r
theorem jn_new (w : World) (a b : Rn) : Jn w b a.f a.d a.g a.e ((((w.alloc (.cells #[.int .i8 a.f, .int .i64 a.d, .int .i8 a.g, .int .i64 a.e] 26)).alloc (.cells #[.int .i8 b.f, .int .i64 b.d, .int .i8 b.g, .int .i64 b.e] 26)).alloc (.cells #[.int .i8 0, .int .i64 0, .int .i8 0, .int .i64 0] 26)).alloc (.cells #[.int .i8 a.f, .int .i64 a.d, .int .i8 a.g, .int .i64 a.e] 26)) := by
 have h2 := (rg_two w a b).2
 have s2 : ((w.alloc (.cells #[.int .i8 a.f, .int .i64 a.d, .int .i8 a.g, .int .i64 a.e] 26)).alloc (.cells #[.int .i8 b.f, .int .i64 b.d, .int .i8 b.g, .int .i64 b.e] 26)).heap.size = w.heap.size + 1 + 1 := by simp
 generalize (w.alloc (.cells #[.int .i8 a.f, .int .i64 a.d, .int .i8 a.g, .int .i64 a.e] 26)).alloc (.cells #[.int .i8 b.f, .int .i64 b.d, .int .i8 b.g, .int .i64 b.e] 26) = u at *
 have b1 := (Below.refl u.heap.size u).alloc (Nat.le_refl _) (.cells #[.int .i8 0, .int .i64 0, .int .i8 0, .int .i64 0] 26)
 have b2 := b1.alloc (by simp) (.cells #[.int .i8 a.f, .int .i64 a.d, .int .i8 a.g, .int .i64 a.e] 26)
 have e1 : (u.alloc (.cells #[.int .i8 0, .int .i64 0, .int .i8 0, .int .i64 0] 26)).heap[w.heap.size + 1 + 1]? = some (.cells #[.int .i8 0, .int .i64 0, .int .i8 0, .int .i64 0] 26 (0, 0)) := by rw [← s2]; exact heap_alloc_new _ _
 have s3 : (u.alloc (.cells #[.int .i8 0, .int .i64 0, .int .i8 0, .int .i64 0] 26)).heap.size = w.heap.size + 1 + 1 + 1 := by simp [s2]
 refine ⟨h2.below.trans (b2.mono h2.below.size), h2.step b2, ?_, ?_⟩
 ·generalize u.alloc (.cells #[.int .i8 0, .int .i64 0, .int .i8 0, .int .i64 0] 26) = v at *
  rw [((Below.refl v.heap.size v).alloc (Nat.le_refl _) (.cells #[.int .i8 a.f, .int .i64 a.d, .int .i8 a.g, .int .i64 a.e] 26)).block _ (by omega)]; exact e1
 ·generalize u.alloc (.cells #[.int .i8 0, .int .i64 0, .int .i8 0, .int .i64 0] 26) = v at *
  rw [← s3]; exact heap_alloc_new _ _
end Go.Proofs.YteddfolhpoikcaaGreatDoor
