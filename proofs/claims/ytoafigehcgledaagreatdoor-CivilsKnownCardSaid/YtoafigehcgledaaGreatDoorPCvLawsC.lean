/-
  DERIVED. WALKS of the laws CivilsText, CivilsParse, given the contracts of package civils. Written by mkciv3.py.
-/
import Derived.Test.YtoafigehcgledaaGreatDoorPCvLawsB
import Derived.Test.YtoafigehcgledaaGreatDoorPCvRefV
namespace Go.Proofs.YtoafigehcgledaaGreatDoor
open Go.RowKit

set_option maxRecDepth 100000 in
set_option maxHeartbeats 4000000 in
theorem lawText_any {I : World → Prop} (C : CivFns I) (D : CivTxt I) (y m d : Int) (w : World) (hI : I w) (y0 : -9223372036854775808 ≤ y) (y1 : y ≤ 9223372036854775807) (m0 : -9223372036854775808 ≤ m) (m1 : m ≤ 9223372036854775807) (d0 : -9223372036854775808 ≤ d) (d1 : d ≤ 9223372036854775807) :
    Calls Tryz.prog 6 #[.agg #[.int .i64 y, .int .i64 m, .int .i64 d]] w fun e w' => e = .returned (.bool true) ∧ Below w.heap.size w w' := by
  have HA := Kp.mk (cv_new y m d 23 (Below.refl w.heap.size w))
  have HB := Kp.mk HA.out.bl
  have HI := Kp.mk (fun (v : World) (h : Below w.heap.size w v) => C.keep hI h)
  clear hI
  have rl := Kp.mk (fun v (hw : Below w.heap.size w v) => C.lives v (HI.out v hw))
  obtain ⟨c, hc⟩ : ∃ c, chkC y m d = c := ⟨_, rfl⟩
  have r1 := Kp.mk (fun w => refCChk_is w hc)
  by_cases h0 : c = 0
  · subst h0
    have hR := (chkC_iff y m d).1 hc
    have r2 := Kp.mk (fun v (hw : Below w.heap.size w v) => D.text_in v (HI.out v hw) hR)
    have r4 := Kp.mk (fun w => refCText_is w hR)
    obtain ⟨neg, yr, a, b, c, e, hF, ey, em, ed⟩ := text_form hR
    have hlen := text_len hR
    have r3 := Kp.mk (fun v (hw : Below w.heap.size w v) => D.parse_in v (HI.out v hw) hF (by omega) (by rw [ey, em, ed]; exact hc))
    rw [ey, em, ed] at r3
    have q1 := Kp.mk (fun w => gives_ok y m d w)
    generalize bs (textC y m d) = s at *
    clear C D hc hR hF ey em ed hlen y0 y1 m0 m1 d0 d1
    go_enter Tryz.func6, Tryz.ntmps6
    go_upto_region 1 with fail
    generalize (w.alloc (.cells #[.int .i64 y, .int .i64 m, .int .i64 d] 23)) = w0 at *
    have kHA0 := HA.out.c0
    have kHA1 := HA.out.c1
    have kHA2 := HA.out.c2
    go_wp2_with fail
    refine (r1.out _).mono ?_
    rintro e u1 ⟨rfl, hbl⟩
    clear kHA0 kHA1 kHA2
    have HB := Kp.mk (HB.out.step hbl)
    have HA := Kp.mk (HA.out.step hbl)
    clear hbl
    have kHA0 := HA.out.c0
    have kHA1 := HA.out.c1
    have kHA2 := HA.out.c2
    go_wp2_with fail
    refine (r2.out _ HB.out.below).mono ?_
    rintro e u2 ⟨rfl, hbl⟩
    clear kHA0 kHA1 kHA2
    have HB := Kp.mk (HB.out.step hbl)
    have HA := Kp.mk (HA.out.step hbl)
    clear hbl
    have kHA0 := HA.out.c0
    have kHA1 := HA.out.c1
    have kHA2 := HA.out.c2
    go_wp2_with fail
    refine (r3.out _ HB.out.below).mono ?_
    rintro e u3 ⟨rfl, hbl⟩
    clear kHA0 kHA1 kHA2
    have HB := Kp.mk (HB.out.step hbl)
    have HA := Kp.mk (HA.out.step hbl)
    clear hbl
    have kHA0 := HA.out.c0
    have kHA1 := HA.out.c1
    have kHA2 := HA.out.c2
    go_upto_region 6 with fail
    clear kHA0 kHA1 kHA2
    have HC := Kp.mk (cv_new y m d 23 HB.out.below)
    have hbl := (Below.refl u3.heap.size u3).alloc (Nat.le_refl _) (.cells #[.int .i64 y, .int .i64 m, .int .i64 d] 23)
    have HB := Kp.mk (HB.out.step hbl)
    have HA := Kp.mk (HA.out.step hbl)
    clear hbl
    generalize u3.alloc (.cells #[.int .i64 y, .int .i64 m, .int .i64 d] 23) = u4 at *
    generalize u3.heap.size = g1 at *
    have kHA0 := HA.out.c0
    have kHA1 := HA.out.c1
    have kHA2 := HA.out.c2
    have kHC0 := HC.out.c0
    have kHC1 := HC.out.c1
    have kHC2 := HC.out.c2
    go_wp2_with fail
    refine (r4.out _).mono ?_
    rintro e u5 ⟨rfl, hbl⟩
    clear kHA0 kHA1 kHA2 kHC0 kHC1 kHC2
    have HB := Kp.mk (HB.out.step hbl)
    have HA := Kp.mk (HA.out.step hbl)
    have HC := Kp.mk (HC.out.step hbl)
    clear hbl
    have kHA0 := HA.out.c0
    have kHA1 := HA.out.c1
    have kHA2 := HA.out.c2
    have kHC0 := HC.out.c0
    have kHC1 := HC.out.c1
    have kHC2 := HC.out.c2
    go_wp2_with fail
    refine (q1.out _).mono ?_
    rintro e u6 ⟨rfl, hbl⟩
    clear kHA0 kHA1 kHA2 kHC0 kHC1 kHC2
    have HB := Kp.mk (HB.out.step hbl)
    have HA := Kp.mk (HA.out.step hbl)
    have HC := Kp.mk (HC.out.step hbl)
    clear hbl
    have kHA0 := HA.out.c0
    have kHA1 := HA.out.c1
    have kHA2 := HA.out.c2
    have kHC0 := HC.out.c0
    have kHC1 := HC.out.c1
    have kHC2 := HC.out.c2
    go_wp2_with fail
    refine (rl.out _ HB.out.below).mono ?_
    rintro e u7 ⟨rfl, hbl⟩
    clear kHA0 kHA1 kHA2 kHC0 kHC1 kHC2
    have HB := Kp.mk (HB.out.step hbl)
    have HA := Kp.mk (HA.out.step hbl)
    have HC := Kp.mk (HC.out.step hbl)
    clear hbl
    have kHA0 := HA.out.c0
    have kHA1 := HA.out.c1
    have kHA2 := HA.out.c2
    have kHC0 := HC.out.c0
    have kHC1 := HC.out.c1
    have kHC2 := HC.out.c2
    go_wp2_with fail
    go_ret
    exact ⟨rfl, HB.out.below⟩
  · have t1 : (c != 0) = true := by rw [bne_iff_ne]; exact h0
    have r2 := Kp.mk (fun v (hw : Below w.heap.size w v) => D.text_out v (HI.out v hw) y0 y1 m0 m1 d0 d1 hc h0)
    clear C D hc h0 y0 y1 m0 m1 d0 d1
    go_enter Tryz.func6, Tryz.ntmps6
    go_upto_region 1 with fail
    generalize (w.alloc (.cells #[.int .i64 y, .int .i64 m, .int .i64 d] 23)) = w0 at *
    have kHA0 := HA.out.c0
    have kHA1 := HA.out.c1
    have kHA2 := HA.out.c2
    go_wp2_with fail
    refine (r1.out _).mono ?_
    rintro e u1 ⟨rfl, hbl⟩
    clear kHA0 kHA1 kHA2
    have HB := Kp.mk (HB.out.step hbl)
    have HA := Kp.mk (HA.out.step hbl)
    clear hbl
    have kHA0 := HA.out.c0
    have kHA1 := HA.out.c1
    have kHA2 := HA.out.c2
    go_wp2_with fail
    refine (r2.out _ HB.out.below).mono ?_
    rintro e u2 ⟨rfl, hbl⟩
    clear kHA0 kHA1 kHA2
    have HB := Kp.mk (HB.out.step hbl)
    have HA := Kp.mk (HA.out.step hbl)
    clear hbl
    have kHA0 := HA.out.c0
    have kHA1 := HA.out.c1
    have kHA2 := HA.out.c2
    go_wp2_with fail
    refine (rl.out _ HB.out.below).mono ?_
    rintro e u3 ⟨rfl, hbl⟩
    clear kHA0 kHA1 kHA2
    have HB := Kp.mk (HB.out.step hbl)
    have HA := Kp.mk (HA.out.step hbl)
    clear hbl
    have kHA0 := HA.out.c0
    have kHA1 := HA.out.c1
    have kHA2 := HA.out.c2
    go_wp2_with fail
    go_ret
    exact ⟨rfl, HB.out.below⟩
set_option maxRecDepth 100000 in
set_option maxHeartbeats 4000000 in
theorem lawParse_any {I : World → Prop} (C : CivFns I) (D : CivTxt I) (s : ByteArray) (w : World) (hI : I w) :
    Calls Tryz.prog 7 #[.string s] w fun e w' => e = .returned (.bool true) ∧ Below w.heap.size w w' := by
  have HB := Kp.mk (Bl.mk (Below.refl w.heap.size w))
  have HI := Kp.mk (fun (v : World) (h : Below w.heap.size w v) => C.keep hI h)
  clear hI
  have rl := Kp.mk (fun v (hw : Below w.heap.size w v) => C.lives v (HI.out v hw))
  obtain ⟨l, hl⟩ : ∃ l, s = bs l := ⟨s.data.toList, (bs_list s).symm⟩
  by_cases hm : l.length ≤ 100
  · have hs : ¬ (100 : Int) < (s.size : Int) := by rw [hl, bs_size]; omega
    by_cases hF : ∃ neg yr a b c d, CvForm l neg yr a b c d
    · obtain ⟨neg, yr, a, b, c, d, hF⟩ := hF
      obtain ⟨er, her⟩ : ∃ e, chkC (yv neg yr) (tv a b) (tv c d) = e := ⟨_, rfl⟩
      by_cases h0 : er = 0
      · subst h0
        have hR := (chkC_iff _ _ _).1 her
        have r1 := Kp.mk (fun v (hw : Below w.heap.size w v) => D.parse_in v (HI.out v hw) hF hm her)
        have r2 := Kp.mk (fun w => refCParse_in hF hm her w)
        have r3 := Kp.mk (fun v (hw : Below w.heap.size w v) => D.text_in v (HI.out v hw) hR)
        rw [form_text hF, ← hl] at r3
        rw [← hl] at r1 r2
        have q1 := Kp.mk (fun w => gives_ok (yv neg yr) (tv a b) (tv c d) w)
        generalize yv neg yr = y at *
        generalize tv a b = m at *
        generalize tv c d = n at *
        clear C D hF her hR hl hm
        go_enter Tryz.func7, Tryz.ntmps7
        go_upto_region 1 with fail
        go_wp2_with fail
        refine (r1.out _ HB.out.below).mono ?_
        rintro e u1 ⟨rfl, hbl⟩
        have HB := Kp.mk (HB.out.step hbl)
        clear hbl
        go_upto_region 4 with fail
        have HC := Kp.mk (cv_new y m n 23 HB.out.below)
        have hbl := (Below.refl u1.heap.size u1).alloc (Nat.le_refl _) (.cells #[.int .i64 y, .int .i64 m, .int .i64 n] 23)
        have HB := Kp.mk (HB.out.step hbl)
        clear hbl
        generalize u1.alloc (.cells #[.int .i64 y, .int .i64 m, .int .i64 n] 23) = u2 at *
        generalize u1.heap.size = g1 at *
        have kHC0 := HC.out.c0
        have kHC1 := HC.out.c1
        have kHC2 := HC.out.c2
        go_wp2_with fail
        refine (r2.out _).mono ?_
        rintro e u3 ⟨rfl, hbl⟩
        clear kHC0 kHC1 kHC2
        have HB := Kp.mk (HB.out.step hbl)
        have HC := Kp.mk (HC.out.step hbl)
        clear hbl
        have kHC0 := HC.out.c0
        have kHC1 := HC.out.c1
        have kHC2 := HC.out.c2
        go_upto_region 5 with fail
        clear kHC0 kHC1 kHC2
        have HD := Kp.mk (cv_new y m n 23 HB.out.below)
        have hbl := (Below.refl u3.heap.size u3).alloc (Nat.le_refl _) (.cells #[.int .i64 y, .int .i64 m, .int .i64 n] 23)
        have HB := Kp.mk (HB.out.step hbl)
        have HC := Kp.mk (HC.out.step hbl)
        clear hbl
        generalize u3.alloc (.cells #[.int .i64 y, .int .i64 m, .int .i64 n] 23) = u4 at *
        generalize u3.heap.size = g2 at *
        have kHC0 := HC.out.c0
        have kHC1 := HC.out.c1
        have kHC2 := HC.out.c2
        have kHD0 := HD.out.c0
        have kHD1 := HD.out.c1
        have kHD2 := HD.out.c2
        go_wp2_with fail
        refine (q1.out _).mono ?_
        rintro e u5 ⟨rfl, hbl⟩
        clear kHC0 kHC1 kHC2 kHD0 kHD1 kHD2
        have HB := Kp.mk (HB.out.step hbl)
        have HC := Kp.mk (HC.out.step hbl)
        have HD := Kp.mk (HD.out.step hbl)
        clear hbl
        have kHC0 := HC.out.c0
        have kHC1 := HC.out.c1
        have kHC2 := HC.out.c2
        have kHD0 := HD.out.c0
        have kHD1 := HD.out.c1
        have kHD2 := HD.out.c2
        go_wp2_with fail
        refine (r3.out _ HB.out.below).mono ?_
        rintro e u6 ⟨rfl, hbl⟩
        clear kHC0 kHC1 kHC2 kHD0 kHD1 kHD2
        have HB := Kp.mk (HB.out.step hbl)
        have HC := Kp.mk (HC.out.step hbl)
        have HD := Kp.mk (HD.out.step hbl)
        clear hbl
        have kHC0 := HC.out.c0
        have kHC1 := HC.out.c1
        have kHC2 := HC.out.c2
        have kHD0 := HD.out.c0
        have kHD1 := HD.out.c1
        have kHD2 := HD.out.c2
        go_wp2_with fail
        refine (rl.out _ HB.out.below).mono ?_
        rintro e u7 ⟨rfl, hbl⟩
        clear kHC0 kHC1 kHC2 kHD0 kHD1 kHD2
        have HB := Kp.mk (HB.out.step hbl)
        have HC := Kp.mk (HC.out.step hbl)
        have HD := Kp.mk (HD.out.step hbl)
        clear hbl
        have kHC0 := HC.out.c0
        have kHC1 := HC.out.c1
        have kHC2 := HC.out.c2
        have kHD0 := HD.out.c0
        have kHD1 := HD.out.c1
        have kHD2 := HD.out.c2
        go_wp2_with fail
        go_ret
        exact ⟨rfl, HB.out.below⟩
      · have t1 : (er != 0) = true := by rw [bne_iff_ne]; exact h0
        have r1 := Kp.mk (fun v (hw : Below w.heap.size w v) => D.parse_err v (HI.out v hw) hF hm her h0)
        have r2 := Kp.mk (fun w => refCParse_err hF hm her h0 w)
        rw [← hl] at r1 r2
        have q1 := Kp.mk (fun w => gives_bad h0 0 0 0 w)
        clear C D hF her hl hm h0
        go_enter Tryz.func7, Tryz.ntmps7
        go_upto_region 1 with fail
        go_wp2_with fail
        refine (r1.out _ HB.out.below).mono ?_
        rintro e u1 ⟨rfl, hbl⟩
        have HB := Kp.mk (HB.out.step hbl)
        clear hbl
        go_upto_region 4 with fail
        have HC := Kp.mk (cv_new 0 0 0 23 HB.out.below)
        have hbl := (Below.refl u1.heap.size u1).alloc (Nat.le_refl _) (.cells #[.int .i64 0, .int .i64 0, .int .i64 0] 23)
        have HB := Kp.mk (HB.out.step hbl)
        clear hbl
        generalize u1.alloc (.cells #[.int .i64 0, .int .i64 0, .int .i64 0] 23) = u2 at *
        generalize u1.heap.size = g1 at *
        have kHC0 := HC.out.c0
        have kHC1 := HC.out.c1
        have kHC2 := HC.out.c2
        go_wp2_with fail
        refine (r2.out _).mono ?_
        rintro e u3 ⟨rfl, hbl⟩
        clear kHC0 kHC1 kHC2
        have HB := Kp.mk (HB.out.step hbl)
        have HC := Kp.mk (HC.out.step hbl)
        clear hbl
        have kHC0 := HC.out.c0
        have kHC1 := HC.out.c1
        have kHC2 := HC.out.c2
        go_upto_region 5 with fail
        clear kHC0 kHC1 kHC2
        have HD := Kp.mk (cv_new 0 0 0 23 HB.out.below)
        have hbl := (Below.refl u3.heap.size u3).alloc (Nat.le_refl _) (.cells #[.int .i64 0, .int .i64 0, .int .i64 0] 23)
        have HB := Kp.mk (HB.out.step hbl)
        have HC := Kp.mk (HC.out.step hbl)
        clear hbl
        generalize u3.alloc (.cells #[.int .i64 0, .int .i64 0, .int .i64 0] 23) = u4 at *
        generalize u3.heap.size = g2 at *
        have kHC0 := HC.out.c0
        have kHC1 := HC.out.c1
        have kHC2 := HC.out.c2
        have kHD0 := HD.out.c0
        have kHD1 := HD.out.c1
        have kHD2 := HD.out.c2
        go_wp2_with fail
        refine (q1.out _).mono ?_
        rintro e u5 ⟨rfl, hbl⟩
        clear kHC0 kHC1 kHC2 kHD0 kHD1 kHD2
        have HB := Kp.mk (HB.out.step hbl)
        have HC := Kp.mk (HC.out.step hbl)
        have HD := Kp.mk (HD.out.step hbl)
        clear hbl
        have kHC0 := HC.out.c0
        have kHC1 := HC.out.c1
        have kHC2 := HC.out.c2
        have kHD0 := HD.out.c0
        have kHD1 := HD.out.c1
        have kHD2 := HD.out.c2
        go_wp2_with fail
        refine (rl.out _ HB.out.below).mono ?_
        rintro e u6 ⟨rfl, hbl⟩
        clear kHC0 kHC1 kHC2 kHD0 kHD1 kHD2
        have HB := Kp.mk (HB.out.step hbl)
        have HC := Kp.mk (HC.out.step hbl)
        have HD := Kp.mk (HD.out.step hbl)
        clear hbl
        have kHC0 := HC.out.c0
        have kHC1 := HC.out.c1
        have kHC2 := HC.out.c2
        have kHD0 := HD.out.c0
        have kHD1 := HD.out.c1
        have kHD2 := HD.out.c2
        go_wp2_with fail
        go_ret
        exact ⟨rfl, HB.out.below⟩
    · have r1 := Kp.mk (fun v (hw : Below w.heap.size w v) => D.parse_no v (HI.out v hw) hF hm)
      have r2 := Kp.mk (fun w => refCParse_no hF hm w)
      rw [← hl] at r1 r2
      have q1 := Kp.mk (fun w => gives_bad (e := 5) (by decide) 0 0 0 w)
      clear C D hF hl hm
      go_enter Tryz.func7, Tryz.ntmps7
      go_upto_region 1 with fail
      go_wp2_with fail
      refine (r1.out _ HB.out.below).mono ?_
      rintro e u1 ⟨rfl, hbl⟩
      have HB := Kp.mk (HB.out.step hbl)
      clear hbl
      go_upto_region 4 with fail
      have HC := Kp.mk (cv_new 0 0 0 23 HB.out.below)
      have hbl := (Below.refl u1.heap.size u1).alloc (Nat.le_refl _) (.cells #[.int .i64 0, .int .i64 0, .int .i64 0] 23)
      have HB := Kp.mk (HB.out.step hbl)
      clear hbl
      generalize u1.alloc (.cells #[.int .i64 0, .int .i64 0, .int .i64 0] 23) = u2 at *
      generalize u1.heap.size = g1 at *
      have kHC0 := HC.out.c0
      have kHC1 := HC.out.c1
      have kHC2 := HC.out.c2
      go_wp2_with fail
      refine (r2.out _).mono ?_
      rintro e u3 ⟨rfl, hbl⟩
      clear kHC0 kHC1 kHC2
      have HB := Kp.mk (HB.out.step hbl)
      have HC := Kp.mk (HC.out.step hbl)
      clear hbl
      have kHC0 := HC.out.c0
      have kHC1 := HC.out.c1
      have kHC2 := HC.out.c2
      go_upto_region 5 with fail
      clear kHC0 kHC1 kHC2
      have HD := Kp.mk (cv_new 0 0 0 23 HB.out.below)
      have hbl := (Below.refl u3.heap.size u3).alloc (Nat.le_refl _) (.cells #[.int .i64 0, .int .i64 0, .int .i64 0] 23)
      have HB := Kp.mk (HB.out.step hbl)
      have HC := Kp.mk (HC.out.step hbl)
      clear hbl
      generalize u3.alloc (.cells #[.int .i64 0, .int .i64 0, .int .i64 0] 23) = u4 at *
      generalize u3.heap.size = g2 at *
      have kHC0 := HC.out.c0
      have kHC1 := HC.out.c1
      have kHC2 := HC.out.c2
      have kHD0 := HD.out.c0
      have kHD1 := HD.out.c1
      have kHD2 := HD.out.c2
      go_wp2_with fail
      refine (q1.out _).mono ?_
      rintro e u5 ⟨rfl, hbl⟩
      clear kHC0 kHC1 kHC2 kHD0 kHD1 kHD2
      have HB := Kp.mk (HB.out.step hbl)
      have HC := Kp.mk (HC.out.step hbl)
      have HD := Kp.mk (HD.out.step hbl)
      clear hbl
      have kHC0 := HC.out.c0
      have kHC1 := HC.out.c1
      have kHC2 := HC.out.c2
      have kHD0 := HD.out.c0
      have kHD1 := HD.out.c1
      have kHD2 := HD.out.c2
      go_wp2_with fail
      refine (rl.out _ HB.out.below).mono ?_
      rintro e u6 ⟨rfl, hbl⟩
      clear kHC0 kHC1 kHC2 kHD0 kHD1 kHD2
      have HB := Kp.mk (HB.out.step hbl)
      have HC := Kp.mk (HC.out.step hbl)
      have HD := Kp.mk (HD.out.step hbl)
      clear hbl
      have kHC0 := HC.out.c0
      have kHC1 := HC.out.c1
      have kHC2 := HC.out.c2
      have kHD0 := HD.out.c0
      have kHD1 := HD.out.c1
      have kHD2 := HD.out.c2
      go_wp2_with fail
      go_ret
      exact ⟨rfl, HB.out.below⟩
  · have hs : (100 : Int) < (s.size : Int) := by rw [hl, bs_size]; omega
    clear C D hl hm
    go_enter Tryz.func7, Tryz.ntmps7
    go_upto_region 1 with fail
    go_wp2_with fail
    refine (rl.out _ HB.out.below).mono ?_
    rintro e u1 ⟨rfl, hbl⟩
    have HB := Kp.mk (HB.out.step hbl)
    clear hbl
    go_wp2_with fail
    go_ret
    exact ⟨rfl, HB.out.below⟩
end Go.Proofs.YtoafigehcgledaaGreatDoor
