/-
  DERIVED. WALKS of the laws EndsParse, EndsText, given the contracts of package ends. Written by mken.py.
-/
import Derived.Test.YtbnlomjlapnoaaaDoorEnCore
namespace Go.Proofs.YtbnlomjlapnoaaaDoor
open Go.RowKit
set_option maxRecDepth 100000

set_option maxHeartbeats 4000000 in
theorem lawParse_long {I : World → Prop} (C : EndFns I) (l : List UInt8) (w : World) (hI : I w) (h : ¬ l.length ≤ 60) :
    Calls Tryd.prog 6 #[.string (bs l)] w fun x w' => x = .returned (.bool true) ∧ Below w.heap.size w w' := by
  have HB := Kp.mk (Bl.mk (Below.refl w.heap.size w))
  have HI := Kp.mk (fun (v : World) (h : Below w.heap.size w v) => C.keep hI h)
  clear hI
  have rl := Kp.mk (fun v (hw : Below w.heap.size w v) => C.lives v (HI.out v hw))
  have t : (60 : Int) < ((bs l).size : Int) := by rw [bs_size]; omega
  clear C h
  go_enter Tryd.func6, Tryd.ntmps6
  go_wp2_with fail
  refine (rl.out _ HB.out.below).mono ?_
  rintro e u1 ⟨rfl, hbl⟩
  have HB := Kp.mk (HB.out.step hbl)
  clear hbl
  go_wp2_with fail
  go_ret
  exact ⟨rfl, HB.out.below⟩
set_option maxHeartbeats 4000000 in
theorem lawParse_short {I : World → Prop} (C : EndFns I) (l : List UInt8) (w : World) (hI : I w) (h : l.length ≤ 60) :
    Calls Tryd.prog 6 #[.string (bs l)] w fun x w' => x = .returned (.bool true) ∧ Below w.heap.size w w' := by
  have HB := Kp.mk (Bl.mk (Below.refl w.heap.size w))
  have HI := Kp.mk (fun (v : World) (h : Below w.heap.size w v) => C.keep hI h)
  clear hI
  have rl := Kp.mk (fun v (hw : Below w.heap.size w v) => C.lives v (HI.out v hw))
  obtain ⟨f, d, c, hp⟩ := par_is l
  have t : ¬ (60 : Int) < ((bs l).size : Int) := by rw [bs_size]; omega
  have r1 := Kp.mk (fun v (hw : Below w.heap.size w v) => C.parse v (HI.out v hw) h hp)
  have r2 := Kp.mk (fun w => refEPar_is (by omega) hp w)
  have r3 := Kp.mk (fun w => gives_law hp.zero w)
  clear C h hp
  go_enter Tryd.func6, Tryd.ntmps6
  go_wp2_with fail
  refine (r1.out _ HB.out.below).mono ?_
  rintro e u1 ⟨rfl, hbl⟩
  have HB := Kp.mk (HB.out.step hbl)
  clear hbl
  go_upto_region 4 with fail
  have HX := Kp.mk (eb_new f d 24 HB.out.below)
  have hbl := (Below.refl u1.heap.size u1).alloc (Nat.le_refl _) (.cells #[.int .i8 f, .int .i64 d] 24)
  have HB := Kp.mk (HB.out.step hbl)
  clear hbl
  generalize u1.alloc (.cells #[.int .i8 f, .int .i64 d] 24) = u2 at *
  generalize u1.heap.size = g1 at *
  have kHX0 := HX.out.c0
  have kHX1 := HX.out.c1
  go_wp2_with fail
  refine (r2.out _).mono ?_
  rintro e u3 ⟨rfl, hbl⟩
  clear kHX0 kHX1
  have HB := Kp.mk (HB.out.step hbl)
  have HX := Kp.mk (HX.out.step hbl)
  clear hbl
  have kHX0 := HX.out.c0
  have kHX1 := HX.out.c1
  go_upto_region 5 with fail
  clear kHX0 kHX1
  have HY := Kp.mk (eb_new f d 24 HB.out.below)
  have hbl := (Below.refl u3.heap.size u3).alloc (Nat.le_refl _) (.cells #[.int .i8 f, .int .i64 d] 24)
  have HB := Kp.mk (HB.out.step hbl)
  have HX := Kp.mk (HX.out.step hbl)
  clear hbl
  generalize u3.alloc (.cells #[.int .i8 f, .int .i64 d] 24) = u4 at *
  generalize u3.heap.size = g2 at *
  have kHX0 := HX.out.c0
  have kHX1 := HX.out.c1
  have kHY0 := HY.out.c0
  have kHY1 := HY.out.c1
  go_wp2_with fail
  refine (r3.out _).mono ?_
  rintro e u5 ⟨rfl, hbl⟩
  clear kHX0 kHX1 kHY0 kHY1
  have HB := Kp.mk (HB.out.step hbl)
  have HX := Kp.mk (HX.out.step hbl)
  have HY := Kp.mk (HY.out.step hbl)
  clear hbl
  have kHX0 := HX.out.c0
  have kHX1 := HX.out.c1
  have kHY0 := HY.out.c0
  have kHY1 := HY.out.c1
  go_wp2_with fail
  refine (rl.out _ HB.out.below).mono ?_
  rintro e u6 ⟨rfl, hbl⟩
  clear kHX0 kHX1 kHY0 kHY1
  have HB := Kp.mk (HB.out.step hbl)
  have HX := Kp.mk (HX.out.step hbl)
  have HY := Kp.mk (HY.out.step hbl)
  clear hbl
  have kHX0 := HX.out.c0
  have kHX1 := HX.out.c1
  have kHY0 := HY.out.c0
  have kHY1 := HY.out.c1
  go_wp2_with fail
  go_ret
  exact ⟨rfl, HB.out.below⟩
theorem lawParse_any {I : World → Prop} (C : EndFns I) (s : ByteArray) (w : World) (hI : I w) :
    Calls Tryd.prog 6 #[.string s] w fun x w' => x = .returned (.bool true) ∧ Below w.heap.size w w' := by
  rw [← bs_list s]
  by_cases h : s.data.toList.length ≤ 60
  · exact lawParse_short C _ w hI h
  · exact lawParse_long C _ w hI h
set_option maxHeartbeats 4000000 in
theorem lawText_out {I : World → Prop} (C : EndFns I) (f d : Int) (w : World) (hI : I w) (d0 : -9223372036854775808 ≤ d) (d1 : d ≤ 9223372036854775807) (h : ¬ chkE f d = 0) :
    Calls Tryd.prog 5 #[.agg #[.int .i8 f, .int .i64 d]] w fun x w' => x = .returned (.bool true) ∧ Below w.heap.size w w' := by
  have HA := Kp.mk (eb_new f d 24 (Below.refl w.heap.size w))
  have HB := Kp.mk (Bl.mk HA.out.below)
  have HI := Kp.mk (fun (v : World) (h : Below w.heap.size w v) => C.keep hI h)
  clear hI
  have rl := Kp.mk (fun v (hw : Below w.heap.size w v) => C.lives v (HI.out v hw))
  obtain ⟨c, hc⟩ : ∃ c, chkE f d = c := ⟨_, rfl⟩
  rw [hc] at h
  have r1 := Kp.mk (fun v (hw : Below w.heap.size w v) => C.text_out v (HI.out v hw) d0 d1 hc h)
  have r2 := Kp.mk (fun w => refEChk_is hc w)
  have t : (c != 0) = true := by rw [bne_iff_ne]; exact h
  clear C d0 d1 h hc
  go_enter Tryd.func5, Tryd.ntmps5
  go_upto_region 1 with fail
  generalize (w.alloc (.cells #[.int .i8 f, .int .i64 d] 24)) = w0 at *
  have kHA0 := HA.out.c0
  have kHA1 := HA.out.c1
  go_wp2_with fail
  refine (r1.out _ HB.out.below).mono ?_
  rintro e u1 ⟨rfl, hbl⟩
  clear kHA0 kHA1
  have HB := Kp.mk (HB.out.step hbl)
  have HA := Kp.mk (HA.out.step hbl)
  clear hbl
  have kHA0 := HA.out.c0
  have kHA1 := HA.out.c1
  go_wp2_with fail
  refine (r2.out _).mono ?_
  rintro e u2 ⟨rfl, hbl⟩
  clear kHA0 kHA1
  have HB := Kp.mk (HB.out.step hbl)
  have HA := Kp.mk (HA.out.step hbl)
  clear hbl
  have kHA0 := HA.out.c0
  have kHA1 := HA.out.c1
  go_wp2_with fail
  refine (rl.out _ HB.out.below).mono ?_
  rintro e u3 ⟨rfl, hbl⟩
  clear kHA0 kHA1
  have HB := Kp.mk (HB.out.step hbl)
  have HA := Kp.mk (HA.out.step hbl)
  clear hbl
  have kHA0 := HA.out.c0
  have kHA1 := HA.out.c1
  go_wp2_with fail
  go_ret
  exact ⟨rfl, HB.out.below⟩
set_option maxHeartbeats 4000000 in
theorem lawText_in {I : World → Prop} (C : EndFns I) (f d : Int) (w : World) (hI : I w) (d0 : -9223372036854775808 ≤ d) (d1 : d ≤ 9223372036854775807) (h : chkE f d = 0) (hl : (textE f d).length ≤ 60) :
    Calls Tryd.prog 5 #[.agg #[.int .i8 f, .int .i64 d]] w fun x w' => x = .returned (.bool true) ∧ Below w.heap.size w w' := by
  have HA := Kp.mk (eb_new f d 24 (Below.refl w.heap.size w))
  have HB := Kp.mk (Bl.mk HA.out.below)
  have HI := Kp.mk (fun (v : World) (h : Below w.heap.size w v) => C.keep hI h)
  clear hI
  have rl := Kp.mk (fun v (hw : Below w.heap.size w v) => C.lives v (HI.out v hw))
  have r1 := Kp.mk (fun v (hw : Below w.heap.size w v) => C.text_in v (HI.out v hw) d0 d1 h)
  have r2 := Kp.mk (fun w => refEChk_is h w)
  have r3 := Kp.mk (fun v (hw : Below w.heap.size w v) => C.parse v (HI.out v hw) hl (text_again h d0 d1))
  have r4 := Kp.mk (fun w => refEText_is (f := f) d0 d1 w)
  have r5 := Kp.mk (fun w => gives_ok f d w)
  generalize textE f d = tx at *
  clear C d0 d1 h hl
  go_enter Tryd.func5, Tryd.ntmps5
  go_upto_region 1 with fail
  generalize (w.alloc (.cells #[.int .i8 f, .int .i64 d] 24)) = w0 at *
  have kHA0 := HA.out.c0
  have kHA1 := HA.out.c1
  go_wp2_with fail
  refine (r1.out _ HB.out.below).mono ?_
  rintro e u1 ⟨rfl, hbl⟩
  clear kHA0 kHA1
  have HB := Kp.mk (HB.out.step hbl)
  have HA := Kp.mk (HA.out.step hbl)
  clear hbl
  have kHA0 := HA.out.c0
  have kHA1 := HA.out.c1
  go_wp2_with fail
  refine (r2.out _).mono ?_
  rintro e u2 ⟨rfl, hbl⟩
  clear kHA0 kHA1
  have HB := Kp.mk (HB.out.step hbl)
  have HA := Kp.mk (HA.out.step hbl)
  clear hbl
  have kHA0 := HA.out.c0
  have kHA1 := HA.out.c1
  go_wp2_with fail
  refine (r3.out _ HB.out.below).mono ?_
  rintro e u3 ⟨rfl, hbl⟩
  clear kHA0 kHA1
  have HB := Kp.mk (HB.out.step hbl)
  have HA := Kp.mk (HA.out.step hbl)
  clear hbl
  have kHA0 := HA.out.c0
  have kHA1 := HA.out.c1
  go_upto_region 6 with fail
  clear kHA0 kHA1
  have HX := Kp.mk (eb_new f d 24 HB.out.below)
  have hbl := (Below.refl u3.heap.size u3).alloc (Nat.le_refl _) (.cells #[.int .i8 f, .int .i64 d] 24)
  have HB := Kp.mk (HB.out.step hbl)
  have HA := Kp.mk (HA.out.step hbl)
  clear hbl
  generalize u3.alloc (.cells #[.int .i8 f, .int .i64 d] 24) = u4 at *
  generalize u3.heap.size = g1 at *
  have kHA0 := HA.out.c0
  have kHA1 := HA.out.c1
  have kHX0 := HX.out.c0
  have kHX1 := HX.out.c1
  go_wp2_with fail
  refine (r4.out _).mono ?_
  rintro e u5 ⟨rfl, hbl⟩
  clear kHA0 kHA1 kHX0 kHX1
  have HB := Kp.mk (HB.out.step hbl)
  have HA := Kp.mk (HA.out.step hbl)
  have HX := Kp.mk (HX.out.step hbl)
  clear hbl
  have kHA0 := HA.out.c0
  have kHA1 := HA.out.c1
  have kHX0 := HX.out.c0
  have kHX1 := HX.out.c1
  go_wp2_with fail
  refine (r5.out _).mono ?_
  rintro e u6 ⟨rfl, hbl⟩
  clear kHA0 kHA1 kHX0 kHX1
  have HB := Kp.mk (HB.out.step hbl)
  have HA := Kp.mk (HA.out.step hbl)
  have HX := Kp.mk (HX.out.step hbl)
  clear hbl
  have kHA0 := HA.out.c0
  have kHA1 := HA.out.c1
  have kHX0 := HX.out.c0
  have kHX1 := HX.out.c1
  go_wp2_with fail
  refine (rl.out _ HB.out.below).mono ?_
  rintro e u7 ⟨rfl, hbl⟩
  clear kHA0 kHA1 kHX0 kHX1
  have HB := Kp.mk (HB.out.step hbl)
  have HA := Kp.mk (HA.out.step hbl)
  have HX := Kp.mk (HX.out.step hbl)
  clear hbl
  have kHA0 := HA.out.c0
  have kHA1 := HA.out.c1
  have kHX0 := HX.out.c0
  have kHX1 := HX.out.c1
  go_wp2_with fail
  go_ret
  exact ⟨rfl, HB.out.below⟩
theorem lawText_any {I : World → Prop} (C : EndFns I) (f d : Int) (w : World) (hI : I w) (d0 : -9223372036854775808 ≤ d) (d1 : d ≤ 9223372036854775807) :
    Calls Tryd.prog 5 #[.agg #[.int .i8 f, .int .i64 d]] w fun x w' => x = .returned (.bool true) ∧ Below w.heap.size w w' := by
  by_cases h : chkE f d = 0
  · exact lawText_in C f d w hI d0 d1 h (textE_len d0 d1)
  · exact lawText_out C f d w hI d0 d1 h
end Go.Proofs.YtbnlomjlapnoaaaDoor
