/-
 DERIVED. WALKS of the laws RunsParse, RunsText, given the contracts of package runs. Written by mkrn.py.
-/
import Derived.Test.YteddfolhpoikcaaGreatDoorPCo
import Derived.Test.YteddfolhpoikcaaGreatDoorPRf
import Derived.Test.YteddfolhpoikcaaGreatDoorPRp
namespace Go.Proofs.YteddfolhpoikcaaGreatDoor
open Go.RowKit
set_option maxRecDepth 100000

set_option maxHeartbeats 8000000 in
theorem lawParse_long {I : World → Prop} (C : RunFns I) (l : List UInt8) (w : World) (hI : I w) (h : ¬ l.length ≤ 100) :
 Calls Tryz.prog 6 #[.string (bs l)] w fun x w' => x = .returned (.bool true) ∧ Below w.heap.size w w' := by
 have HB := Kp.mk (Bl.mk (Below.refl w.heap.size w))
 have HI := Kp.mk (fun (v : World) (h : Below w.heap.size w v) => C.keep hI h)
 clear hI
 have rl := Kp.mk (fun v (hw : Below w.heap.size w v) => C.lives v (HI.1 v hw))
 have t : (100 : Int) < ((bs l).size : Int) := by rw [bs_size]; omega
 clear C h
 go_enter Tryz.func6, Tryz.ntmps6
 go_wp2_with fail
 refine (rl.1 _ HB.1.below).mono ?_
 rintro e u1 ⟨rfl, hbl⟩
 have HB := Kp.mk (HB.1.step hbl)
 clear hbl
 go_wp2_with fail
 go_ret
 exact ⟨rfl, HB.1.below⟩
set_option maxHeartbeats 8000000 in
theorem lawParse_short {I : World → Prop} (C : RunFns I) (l : List UInt8) (w : World) (hI : I w) (h : l.length ≤ 100) :
 Calls Tryz.prog 6 #[.string (bs l)] w fun x w' => x = .returned (.bool true) ∧ Below w.heap.size w w' := by
 have HB := Kp.mk (Bl.mk (Below.refl w.heap.size w))
 have HI := Kp.mk (fun (v : World) (h : Below w.heap.size w v) => C.keep hI h)
 clear hI
 have rl := Kp.mk (fun v (hw : Below w.heap.size w v) => C.lives v (HI.1 v hw))
 obtain ⟨v, c, hp⟩ := parR_is l
 have t : ¬ (100 : Int) < ((bs l).size : Int) := by rw [bs_size]; omega
 have r1 := Kp.mk (fun u (hw : Below w.heap.size w u) => C.parse u (HI.1 u hw) (by omega) hp)
 have r2 := Kp.mk (fun w => refRPar_is (by omega) hp w)
 have r3 := Kp.mk (fun w => gives_law hp.zero w)
 clear C h hp
 go_enter Tryz.func6, Tryz.ntmps6
 go_wp2_with fail
 refine (r1.1 _ HB.1.below).mono ?_
 rintro e u1 ⟨rfl, hbl⟩
 have HB := Kp.mk (HB.1.step hbl)
 clear hbl
 go_upto_region 4 with fail
 have HX := Kp.mk (rg_new v 26 HB.1.below)
 have hbl := (Below.refl u1.heap.size u1).alloc (Nat.le_refl _) (.cells #[.int .i8 v.f, .int .i64 v.d, .int .i8 v.g, .int .i64 v.e] 26)
 have HB := Kp.mk (HB.1.step hbl)
 clear hbl
 generalize u1.alloc (.cells #[.int .i8 v.f, .int .i64 v.d, .int .i8 v.g, .int .i64 v.e] 26) = u2 at *
 generalize u1.heap.size = g1 at *
 obtain ⟨kHX0, kHX1, kHX2, kHX3⟩ := HX.1.cs
 go_wp2_with fail
 refine (r2.1 _).mono ?_
 rintro e u3 ⟨rfl, hbl⟩
 clear kHX0 kHX1 kHX2 kHX3
 have HB := Kp.mk (HB.1.step hbl)
 have HX := Kp.mk (HX.1.step hbl)
 clear hbl
 obtain ⟨kHX0, kHX1, kHX2, kHX3⟩ := HX.1.cs
 go_upto_region 5 with fail
 clear kHX0 kHX1 kHX2 kHX3
 have HY := Kp.mk (rg_new v 26 HB.1.below)
 have hbl := (Below.refl u3.heap.size u3).alloc (Nat.le_refl _) (.cells #[.int .i8 v.f, .int .i64 v.d, .int .i8 v.g, .int .i64 v.e] 26)
 have HB := Kp.mk (HB.1.step hbl)
 have HX := Kp.mk (HX.1.step hbl)
 clear hbl
 generalize u3.alloc (.cells #[.int .i8 v.f, .int .i64 v.d, .int .i8 v.g, .int .i64 v.e] 26) = u4 at *
 generalize u3.heap.size = g2 at *
 obtain ⟨kHX0, kHX1, kHX2, kHX3⟩ := HX.1.cs
 obtain ⟨kHY0, kHY1, kHY2, kHY3⟩ := HY.1.cs
 go_wp2_with fail
 refine (r3.1 _).mono ?_
 rintro e u5 ⟨rfl, hbl⟩
 clear kHX0 kHX1 kHX2 kHX3 kHY0 kHY1 kHY2 kHY3
 have HB := Kp.mk (HB.1.step hbl)
 have HX := Kp.mk (HX.1.step hbl)
 have HY := Kp.mk (HY.1.step hbl)
 clear hbl
 obtain ⟨kHX0, kHX1, kHX2, kHX3⟩ := HX.1.cs
 obtain ⟨kHY0, kHY1, kHY2, kHY3⟩ := HY.1.cs
 go_wp2_with fail
 refine (rl.1 _ HB.1.below).mono ?_
 rintro e u6 ⟨rfl, hbl⟩
 clear kHX0 kHX1 kHX2 kHX3 kHY0 kHY1 kHY2 kHY3
 have HB := Kp.mk (HB.1.step hbl)
 have HX := Kp.mk (HX.1.step hbl)
 have HY := Kp.mk (HY.1.step hbl)
 clear hbl
 obtain ⟨kHX0, kHX1, kHX2, kHX3⟩ := HX.1.cs
 obtain ⟨kHY0, kHY1, kHY2, kHY3⟩ := HY.1.cs
 go_wp2_with fail
 go_ret
 exact ⟨rfl, HB.1.below⟩
theorem lawParse_any {I : World → Prop} (C : RunFns I) (s : ByteArray) (w : World) (hI : I w) :
 Calls Tryz.prog 6 #[.string s] w fun x w' => x = .returned (.bool true) ∧ Below w.heap.size w w' := by
 rw [← bs_list s]
 by_cases h : s.data.toList.length ≤ 100
 ·exact lawParse_short C _ w hI h
 ·exact lawParse_long C _ w hI h
set_option maxHeartbeats 8000000 in
theorem lawText_bad {I : World → Prop} (C : RunFns I) (r : Rn) (w : World) (hI : I w) (hr : r.In) {c : Int} (hc : chkR r = c) (h0 : ¬ c = 0) :
 Calls Tryz.prog 5 #[.agg #[.int .i8 r.f, .int .i64 r.d, .int .i8 r.g, .int .i64 r.e]] w fun x w' => x = .returned (.bool true) ∧ Below w.heap.size w w' := by
 have HA := Kp.mk (rg_new r 26 (Below.refl w.heap.size w))
 have HB := Kp.mk (bl_of HA.1)
 have HI := Kp.mk (fun (v : World) (h : Below w.heap.size w v) => C.keep hI h)
 clear hI
 have rl := Kp.mk (fun v (hw : Below w.heap.size w v) => C.lives v (HI.1 v hw))
 have r1 := Kp.mk (fun v (hw : Below w.heap.size w v) => C.text_bad v (HI.1 v hw) hr hc h0)
 have r2 := Kp.mk (fun w => refRChk_is hc w)
 have t1 : (c != 0) = true := by rw [bne_iff_ne]; exact h0
 clear C hr hc h0
 go_enter Tryz.func5, Tryz.ntmps5
 go_upto_region 1 with fail
 generalize (w.alloc (.cells #[.int .i8 r.f, .int .i64 r.d, .int .i8 r.g, .int .i64 r.e] 26)) = w0 at *
 obtain ⟨kHA0, kHA1, kHA2, kHA3⟩ := HA.1.cs
 go_wp2_with fail
 refine (r1.1 _ HB.1.below).mono ?_
 rintro e u1 ⟨rfl, hbl⟩
 clear kHA0 kHA1 kHA2 kHA3
 have HB := Kp.mk (HB.1.step hbl)
 have HA := Kp.mk (HA.1.step hbl)
 clear hbl
 obtain ⟨kHA0, kHA1, kHA2, kHA3⟩ := HA.1.cs
 go_wp2_with fail
 refine (r2.1 _).mono ?_
 rintro e u2 ⟨rfl, hbl⟩
 clear kHA0 kHA1 kHA2 kHA3
 have HB := Kp.mk (HB.1.step hbl)
 have HA := Kp.mk (HA.1.step hbl)
 clear hbl
 obtain ⟨kHA0, kHA1, kHA2, kHA3⟩ := HA.1.cs
 go_wp2_with fail
 refine (rl.1 _ HB.1.below).mono ?_
 rintro e u3 ⟨rfl, hbl⟩
 clear kHA0 kHA1 kHA2 kHA3
 have HB := Kp.mk (HB.1.step hbl)
 have HA := Kp.mk (HA.1.step hbl)
 clear hbl
 obtain ⟨kHA0, kHA1, kHA2, kHA3⟩ := HA.1.cs
 go_wp2_with fail
 go_ret
 exact ⟨rfl, HB.1.below⟩
set_option maxHeartbeats 8000000 in
theorem lawText_ok {I : World → Prop} (C : RunFns I) (r : Rn) (w : World) (hI : I w) (hr : r.In) (hc : chkR r = 0) :
 Calls Tryz.prog 5 #[.agg #[.int .i8 r.f, .int .i64 r.d, .int .i8 r.g, .int .i64 r.e]] w fun x w' => x = .returned (.bool true) ∧ Below w.heap.size w w' := by
 have HA := Kp.mk (rg_new r 26 (Below.refl w.heap.size w))
 have HB := Kp.mk (bl_of HA.1)
 have HI := Kp.mk (fun (v : World) (h : Below w.heap.size w v) => C.keep hI h)
 clear hI
 have rl := Kp.mk (fun v (hw : Below w.heap.size w v) => C.lives v (HI.1 v hw))
 have r1 := Kp.mk (fun v (hw : Below w.heap.size w v) => C.text_ok v (HI.1 v hw) hr hc)
 have r2 := Kp.mk (fun w => refRChk_is hc w)
 have r3 := Kp.mk (fun v (hw : Below w.heap.size w v) => C.parse v (HI.1 v hw) (by have := textR_len hr; omega) (textR_again hr hc))
 have r4 := Kp.mk (fun w => refRText_is hr w)
 have r5 := Kp.mk (fun w => gives_ok r w)
 generalize textR r = tx at *
 clear C hr hc
 go_enter Tryz.func5, Tryz.ntmps5
 go_upto_region 1 with fail
 generalize (w.alloc (.cells #[.int .i8 r.f, .int .i64 r.d, .int .i8 r.g, .int .i64 r.e] 26)) = w0 at *
 obtain ⟨kHA0, kHA1, kHA2, kHA3⟩ := HA.1.cs
 go_wp2_with fail
 refine (r1.1 _ HB.1.below).mono ?_
 rintro e u1 ⟨rfl, hbl⟩
 clear kHA0 kHA1 kHA2 kHA3
 have HB := Kp.mk (HB.1.step hbl)
 have HA := Kp.mk (HA.1.step hbl)
 clear hbl
 obtain ⟨kHA0, kHA1, kHA2, kHA3⟩ := HA.1.cs
 go_wp2_with fail
 refine (r2.1 _).mono ?_
 rintro e u2 ⟨rfl, hbl⟩
 clear kHA0 kHA1 kHA2 kHA3
 have HB := Kp.mk (HB.1.step hbl)
 have HA := Kp.mk (HA.1.step hbl)
 clear hbl
 obtain ⟨kHA0, kHA1, kHA2, kHA3⟩ := HA.1.cs
 go_wp2_with fail
 refine (r3.1 _ HB.1.below).mono ?_
 rintro e u3 ⟨rfl, hbl⟩
 clear kHA0 kHA1 kHA2 kHA3
 have HB := Kp.mk (HB.1.step hbl)
 have HA := Kp.mk (HA.1.step hbl)
 clear hbl
 obtain ⟨kHA0, kHA1, kHA2, kHA3⟩ := HA.1.cs
 go_upto_region 6 with fail
 clear kHA0 kHA1 kHA2 kHA3
 have HX := Kp.mk (rg_new r 26 HB.1.below)
 have hbl := (Below.refl u3.heap.size u3).alloc (Nat.le_refl _) (.cells #[.int .i8 r.f, .int .i64 r.d, .int .i8 r.g, .int .i64 r.e] 26)
 have HB := Kp.mk (HB.1.step hbl)
 have HA := Kp.mk (HA.1.step hbl)
 clear hbl
 generalize u3.alloc (.cells #[.int .i8 r.f, .int .i64 r.d, .int .i8 r.g, .int .i64 r.e] 26) = u4 at *
 generalize u3.heap.size = g1 at *
 obtain ⟨kHA0, kHA1, kHA2, kHA3⟩ := HA.1.cs
 obtain ⟨kHX0, kHX1, kHX2, kHX3⟩ := HX.1.cs
 go_wp2_with fail
 refine (r4.1 _).mono ?_
 rintro e u5 ⟨rfl, hbl⟩
 clear kHA0 kHA1 kHA2 kHA3 kHX0 kHX1 kHX2 kHX3
 have HB := Kp.mk (HB.1.step hbl)
 have HA := Kp.mk (HA.1.step hbl)
 have HX := Kp.mk (HX.1.step hbl)
 clear hbl
 obtain ⟨kHA0, kHA1, kHA2, kHA3⟩ := HA.1.cs
 obtain ⟨kHX0, kHX1, kHX2, kHX3⟩ := HX.1.cs
 go_wp2_with fail
 refine (r5.1 _).mono ?_
 rintro e u6 ⟨rfl, hbl⟩
 clear kHA0 kHA1 kHA2 kHA3 kHX0 kHX1 kHX2 kHX3
 have HB := Kp.mk (HB.1.step hbl)
 have HA := Kp.mk (HA.1.step hbl)
 have HX := Kp.mk (HX.1.step hbl)
 clear hbl
 obtain ⟨kHA0, kHA1, kHA2, kHA3⟩ := HA.1.cs
 obtain ⟨kHX0, kHX1, kHX2, kHX3⟩ := HX.1.cs
 go_wp2_with fail
 refine (rl.1 _ HB.1.below).mono ?_
 rintro e u7 ⟨rfl, hbl⟩
 clear kHA0 kHA1 kHA2 kHA3 kHX0 kHX1 kHX2 kHX3
 have HB := Kp.mk (HB.1.step hbl)
 have HA := Kp.mk (HA.1.step hbl)
 have HX := Kp.mk (HX.1.step hbl)
 clear hbl
 obtain ⟨kHA0, kHA1, kHA2, kHA3⟩ := HA.1.cs
 obtain ⟨kHX0, kHX1, kHX2, kHX3⟩ := HX.1.cs
 go_wp2_with fail
 go_ret
 exact ⟨rfl, HB.1.below⟩
theorem lawText_any {I : World → Prop} (C : RunFns I) (r : Rn) (w : World) (hI : I w) (hr : r.In) :
 Calls Tryz.prog 5 #[.agg #[.int .i8 r.f, .int .i64 r.d, .int .i8 r.g, .int .i64 r.e]] w fun x w' => x = .returned (.bool true) ∧ Below w.heap.size w w' := by
 by_cases h : chkR r = 0
 ·exact lawText_ok C r w hI hr h
 ·exact lawText_bad C r w hI hr rfl h
end Go.Proofs.YteddfolhpoikcaaGreatDoor
