/-
  DERIVED. circalaw03's lives (the chapter's examples), by the contracts of package masks. Written by mkmklives.py.
-/
import Derived.Test.YtabhfpfnaaihjaaMkIdx
import Derived.Test.YtabhfpfnaaihjaaMkComP
namespace Go.Proofs.Ytabhfpfnaaihjaa
open Go.RowKit

theorem blw_by {l : List Nat} {n : Int} {b : Nat} (_hd : Dm l) (h1 : b ≤ cnt l) (h2 : b = 0 ∨ (nth l (b - 1) : Int) < n) (h3 : b = cnt l ∨ n ≤ (nth l b : Int)) : Blw l n b := by
  refine ⟨h1, fun i hi => ?_, fun i hi hc => ?_⟩
  · have := @nth_le l i (b - 1) (by omega) (by omega)
    omega
  · have := @nth_le l b i hi hc
    omega
theorem mk4 : Mk ⟨#[49, 88, 48, 88]⟩ := mk_of_check (by rfl)
theorem lv0 (w : World) : Calls Try.prog 9 #[.string ⟨#[49, 88, 48, 88]⟩] w fun e w' => e = .returned (.tuple #[.int .i64 100, .int .i64 0]) ∧ Below w.heap.size w w' := count_is (c := 100) w mk4 (by decide)
theorem lv1 (w : World) : Calls Try.prog 10 #[.string ⟨#[49, 88, 48, 88]⟩] w fun e w' => e = .returned (.tuple #[.int .i64 1000, .int .i64 0]) ∧ Below w.heap.size w w' := (p_ends w (fun w => ends_is (lo := 1000) (hi := 1909) w mk4 (by decide) (by decide))).1
theorem lv2 (w : World) : Calls Try.prog 11 #[.string ⟨#[49, 88, 48, 88]⟩] w fun e w' => e = .returned (.tuple #[.int .i64 1909, .int .i64 0]) ∧ Below w.heap.size w w' := (p_ends w (fun w => ends_is (lo := 1000) (hi := 1909) w mk4 (by decide) (by decide))).2
theorem lv3 (w : World) : Calls Try.prog 13 #[.int .i64 100, .int .i64 0, .int .i64 100] w fun e w' => e = .returned (.bool true) ∧ w = w' := num_is w (by decide)
theorem lv4 (w : World) : Calls Try.prog 13 #[.int .i64 1000, .int .i64 0, .int .i64 1000] w fun e w' => e = .returned (.bool true) ∧ w = w' := num_is w (by decide)
theorem lv5 (w : World) : Calls Try.prog 13 #[.int .i64 1909, .int .i64 0, .int .i64 1909] w fun e w' => e = .returned (.bool true) ∧ w = w' := num_is w (by decide)
theorem lv6 (w : World) : Calls Try.prog 19 #[.string ⟨#[49, 88, 48, 88]⟩, .int .i64 1507] w fun e w' => e = .returned (.bool true) ∧ Below w.heap.size w w' := has_is w mk4 (by decide) (by decide) (by decide)
theorem lv7 (w : World) : Calls Try.prog 24 #[.string ⟨#[49, 88, 48, 88]⟩, .int .i64 1010] w fun e w' => e = .returned (.tuple #[.int .i64 1100, .int .i64 0]) ∧ Below w.heap.size w w' := next_is (n := 1010) (u := 1100) (b := 10) (c := true) w mk4 (by decide) (by decide) (blw_by mk4.ok (by decide) (by decide) (by decide)) (by decide)
theorem lv8 (w : World) : Calls Try.prog 24 #[.string ⟨#[49, 88, 48, 88]⟩, .int .i64 1950] w fun e w' => e = .returned (.tuple #[.int .i64 0, .int .i64 16]) ∧ Below w.heap.size w w' := next_is (n := 1950) (u := 0) (b := 100) (c := false) w mk4 (by decide) (by decide) (blw_by mk4.ok (by decide) (by decide) (by decide)) (by decide)
theorem lv9 (w : World) : Calls Try.prog 24 #[.string ⟨#[49, 88, 48, 88]⟩, .int .i64 (-5)] w fun e w' => e = .returned (.tuple #[.int .i64 1000, .int .i64 0]) ∧ Below w.heap.size w w' := next_is (n := -5) (u := 1000) (b := 0) (c := true) w mk4 (by decide) (by decide) (blw_by mk4.ok (by decide) (by decide) (by decide)) (by decide)
theorem lv10 (w : World) : Calls Try.prog 25 #[.string ⟨#[49, 88, 48, 88]⟩, .int .i64 1099] w fun e w' => e = .returned (.tuple #[.int .i64 1009, .int .i64 0]) ∧ Below w.heap.size w w' := prev_is (n := 1099) (u := 1009) (b := 10) (c := true) w mk4 (by decide) (by decide) (blw_by mk4.ok (by decide) (by decide) (by decide)) (by decide)
theorem lv11 (w : World) : Calls Try.prog 13 #[.int .i64 1100, .int .i64 0, .int .i64 1100] w fun e w' => e = .returned (.bool true) ∧ w = w' := num_is w (by decide)
theorem lv12 (w : World) : Calls Try.prog 17 #[.int .i64 0, .int .i64 16, .int .i64 16] w fun e w' => e = .returned (.bool true) ∧ w = w' := bad_is w (by decide)
theorem lv13 (w : World) : Calls Try.prog 13 #[.int .i64 1009, .int .i64 0, .int .i64 1009] w fun e w' => e = .returned (.bool true) ∧ w = w' := num_is w (by decide)
theorem lv14 (w : World) : Calls Try.prog 16 #[.string ⟨#[49, 88, 48, 88]⟩, .int .i64 37] w fun e w' => e = .returned (.tuple #[.int .i64 1307, .int .i64 0]) ∧ Below w.heap.size w w' := nth_is_in (i := 37) (c := 1307) w mk4 (by decide) (by decide)
theorem lv15 (w : World) : Calls Try.prog 18 #[.string ⟨#[49, 88, 48, 88]⟩, .int .i64 1307] w fun e w' => e = .returned (.tuple #[.int .i64 37, .int .i64 0]) ∧ Below w.heap.size w w' := index_is_in (n := 1307) (b := 37) w mk4 (by decide) (by decide) (by decide) (blw_by mk4.ok (by decide) (by decide) (by decide))
theorem lv16 (w : World) : Calls Try.prog 16 #[.string ⟨#[49, 88, 48, 88]⟩, .int .i64 100] w fun e w' => e = .returned (.tuple #[.int .i64 0, .int .i64 4]) ∧ Below w.heap.size w w' := nth_is_out (i := 100) w mk4 (by decide)
theorem lv17 (w : World) : Calls Try.prog 18 #[.string ⟨#[49, 88, 48, 88]⟩, .int .i64 1317] w fun e w' => e = .returned (.tuple #[.int .i64 0, .int .i64 16]) ∧ Below w.heap.size w w' := index_is_out (n := 1317) w mk4 (by decide) (by decide) (by decide)
theorem lv18 (w : World) : Calls Try.prog 13 #[.int .i64 1307, .int .i64 0, .int .i64 1307] w fun e w' => e = .returned (.bool true) ∧ w = w' := num_is w (by decide)
theorem lv19 (w : World) : Calls Try.prog 13 #[.int .i64 37, .int .i64 0, .int .i64 37] w fun e w' => e = .returned (.bool true) ∧ w = w' := num_is w (by decide)
theorem lv20 (w : World) : Calls Try.prog 17 #[.int .i64 0, .int .i64 4, .int .i64 4] w fun e w' => e = .returned (.bool true) ∧ w = w' := bad_is w (by decide)
theorem lv21 (w : World) : Calls Try.prog 28 #[.string ⟨#[49, 88, 88]⟩, .string ⟨#[88, 50, 88]⟩] w fun e w' => e = .returned (.tuple #[.string ⟨#[49, 50, 88]⟩, .int .i64 0]) ∧ Below w.heap.size w w' := common_is w (mk_of_check (by rfl)) (mk_of_check (by rfl)) (by rfl)
theorem lv22 (w : World) : Calls Try.prog 28 #[.string ⟨#[49, 88]⟩, .string ⟨#[50, 88]⟩] w fun e w' => e = .returned (.tuple #[.string ⟨#[]⟩, .int .i64 16]) ∧ Below w.heap.size w w' := common_is w (mk_of_check (by rfl)) (mk_of_check (by rfl)) (by rfl)
theorem lv23 (w : World) : Calls Try.prog 28 #[.string ⟨#[49]⟩, .string ⟨#[49, 50]⟩] w fun e w' => e = .returned (.tuple #[.string ⟨#[]⟩, .int .i64 1]) ∧ Below w.heap.size w w' := common_is w (mk_of_check (by rfl)) (mk_of_check (by rfl)) (by rfl)
theorem lv24 (w : World) : Calls Try.prog 15 #[.string ⟨#[]⟩] w fun e w' => e = .returned (.int .i64 5) ∧ Below w.heap.size w w' := check_any w (by decide) (by rfl)
theorem lv25 (w : World) : Calls Try.prog 15 #[.string ⟨#[49, 50, 120]⟩] w fun e w' => e = .returned (.int .i64 5) ∧ Below w.heap.size w w' := check_any w (by decide) (by rfl)
theorem lv26 (w : World) : Calls Try.prog 15 #[.string ⟨#[49, 49, 49, 49, 49, 49, 49, 49, 49, 49, 49, 49, 49, 49, 49, 49, 49, 49, 49]⟩] w fun e w' => e = .returned (.int .i64 3) ∧ Below w.heap.size w w' := check_any w (by decide) (by rfl)
set_option maxRecDepth 100000 in
set_option maxHeartbeats 4000000 in
theorem lives_is (w : World) : Calls Try.prog 23 #[] w fun e w' => e = .returned (.bool true) ∧ Below w.heap.size w w' := by
  have HB := Kp.mk (Below.refl w.heap.size w)
  go_enter Try.func23, Try.ntmps23
  go_wp2_with fail
  refine (lv0 _).mono ?_
  rintro e w' ⟨rfl, hbl⟩
  have HB := Kp.mk (HB.out.trans (hbl.mono HB.out.size))
  clear hbl
  go_wp2_with fail
  refine (lv1 _).mono ?_
  rintro e w' ⟨rfl, hbl⟩
  have HB := Kp.mk (HB.out.trans (hbl.mono HB.out.size))
  clear hbl
  go_wp2_with fail
  refine (lv2 _).mono ?_
  rintro e w' ⟨rfl, hbl⟩
  have HB := Kp.mk (HB.out.trans (hbl.mono HB.out.size))
  clear hbl
  go_wp2_with fail
  refine (lv3 _).mono ?_
  rintro e w' ⟨rfl, rfl⟩
  go_wp2_with fail
  refine (lv4 _).mono ?_
  rintro e w' ⟨rfl, rfl⟩
  go_wp2_with fail
  refine (lv5 _).mono ?_
  rintro e w' ⟨rfl, rfl⟩
  go_wp2_with fail
  refine (lv6 _).mono ?_
  rintro e w' ⟨rfl, hbl⟩
  have HB := Kp.mk (HB.out.trans (hbl.mono HB.out.size))
  clear hbl
  go_wp2_with fail
  refine (lv7 _).mono ?_
  rintro e w' ⟨rfl, hbl⟩
  have HB := Kp.mk (HB.out.trans (hbl.mono HB.out.size))
  clear hbl
  go_wp2_with fail
  refine (lv8 _).mono ?_
  rintro e w' ⟨rfl, hbl⟩
  have HB := Kp.mk (HB.out.trans (hbl.mono HB.out.size))
  clear hbl
  go_wp2_with fail
  refine (lv9 _).mono ?_
  rintro e w' ⟨rfl, hbl⟩
  have HB := Kp.mk (HB.out.trans (hbl.mono HB.out.size))
  clear hbl
  go_wp2_with fail
  refine (lv10 _).mono ?_
  rintro e w' ⟨rfl, hbl⟩
  have HB := Kp.mk (HB.out.trans (hbl.mono HB.out.size))
  clear hbl
  go_wp2_with fail
  refine (lv11 _).mono ?_
  rintro e w' ⟨rfl, rfl⟩
  go_wp2_with fail
  refine (lv12 _).mono ?_
  rintro e w' ⟨rfl, rfl⟩
  go_wp2_with fail
  refine (lv4 _).mono ?_
  rintro e w' ⟨rfl, rfl⟩
  go_wp2_with fail
  refine (lv13 _).mono ?_
  rintro e w' ⟨rfl, rfl⟩
  go_wp2_with fail
  refine (lv14 _).mono ?_
  rintro e w' ⟨rfl, hbl⟩
  have HB := Kp.mk (HB.out.trans (hbl.mono HB.out.size))
  clear hbl
  go_wp2_with fail
  refine (lv15 _).mono ?_
  rintro e w' ⟨rfl, hbl⟩
  have HB := Kp.mk (HB.out.trans (hbl.mono HB.out.size))
  clear hbl
  go_wp2_with fail
  refine (lv16 _).mono ?_
  rintro e w' ⟨rfl, hbl⟩
  have HB := Kp.mk (HB.out.trans (hbl.mono HB.out.size))
  clear hbl
  go_wp2_with fail
  refine (lv17 _).mono ?_
  rintro e w' ⟨rfl, hbl⟩
  have HB := Kp.mk (HB.out.trans (hbl.mono HB.out.size))
  clear hbl
  go_wp2_with fail
  refine (lv18 _).mono ?_
  rintro e w' ⟨rfl, rfl⟩
  go_wp2_with fail
  refine (lv19 _).mono ?_
  rintro e w' ⟨rfl, rfl⟩
  go_wp2_with fail
  refine (lv20 _).mono ?_
  rintro e w' ⟨rfl, rfl⟩
  go_wp2_with fail
  refine (lv12 _).mono ?_
  rintro e w' ⟨rfl, rfl⟩
  go_wp2_with fail
  refine (lv21 _).mono ?_
  rintro e w' ⟨rfl, hbl⟩
  have HB := Kp.mk (HB.out.trans (hbl.mono HB.out.size))
  clear hbl
  go_wp2_with fail
  refine (lv22 _).mono ?_
  rintro e w' ⟨rfl, hbl⟩
  have HB := Kp.mk (HB.out.trans (hbl.mono HB.out.size))
  clear hbl
  go_wp2_with fail
  refine (lv23 _).mono ?_
  rintro e w' ⟨rfl, hbl⟩
  have HB := Kp.mk (HB.out.trans (hbl.mono HB.out.size))
  clear hbl
  go_wp2_with fail
  refine (lv24 _).mono ?_
  rintro e w' ⟨rfl, hbl⟩
  have HB := Kp.mk (HB.out.trans (hbl.mono HB.out.size))
  clear hbl
  go_wp2_with fail
  refine (lv25 _).mono ?_
  rintro e w' ⟨rfl, hbl⟩
  have HB := Kp.mk (HB.out.trans (hbl.mono HB.out.size))
  clear hbl
  go_wp2_with fail
  refine (lv26 _).mono ?_
  rintro e w' ⟨rfl, hbl⟩
  have HB := Kp.mk (HB.out.trans (hbl.mono HB.out.size))
  clear hbl
  go_wp2_with fail
  go_ret
  exact ⟨rfl, HB.out⟩
theorem maskFns : MaskFns := ⟨fun w hs n0 n1 hb hr => next_is w hs n0 n1 hb hr, fun w hs n0 n1 hb hr => prev_is w hs n0 n1 hb hr, fun w hs n0 n1 hc => has_is w hs n0 n1 hc, lives_is⟩
theorem maskNums : MaskNums :=
  ⟨fun w hs hc => count_is w hs hc, fun w hs hc => (p_ends w (fun w => ends_is w hs hc rfl)).1, fun w hs hc => (p_ends w (fun w => ends_is w hs rfl hc)).2, fun w hs => check_any w (by have := hs.most; omega) (check_of_mk hs),
   fun w hs hi hc => nth_is_in w hs hi hc, fun w hs _ _ hio => nth_is_out w hs hio, fun w hs n0 n1 hh hb => index_is_in w hs n0 n1 hh hb, fun w hs n0 n1 hh => index_is_out w hs n0 n1 hh⟩
theorem maskBad : MaskBad :=
  ⟨fun w hs hc => check_any w (by omega) hc, fun w hs _ _ hc h0 => has_bad w (by omega) hc h0, fun w ha hb hc => common_is w ha hb hc, fun w ha hb h0 h => common_bad' w (by omega) (by omega) h0 h,
   fun w hs hc h0 => count_bad w (by omega) hc h0, fun w hs hc h0 => (p_ends (lo := 0) (hi := 0) w (fun w => ends_bad w (by omega) hc h0)).1, fun w hs hc h0 => (p_ends (lo := 0) (hi := 0) w (fun w => ends_bad w (by omega) hc h0)).2,
   fun w hs _ _ hc h0 => next_bad w (by omega) hc h0, fun w hs _ _ hc h0 => prev_bad w (by omega) hc h0, fun w hs _ _ hc h0 => nth_bad w (by omega) hc h0, fun w hs _ _ hc h0 => index_bad w (by omega) hc h0⟩
end Go.Proofs.Ytabhfpfnaaihjaa
