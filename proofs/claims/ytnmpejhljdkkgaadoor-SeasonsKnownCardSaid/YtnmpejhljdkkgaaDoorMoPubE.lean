/-
  DERIVED. CONTRACTS of package months: End, Add (what later layers call).
-/
import Derived.Test.YtnmpejhljdkkgaaDoorMoPubS
import Derived.Test.YtnmpejhljdkkgaaDoorIntsAdd
import Derived.OwnWalk
import Derived.BigQuiet
import Derived.WalkSmall
import Derived.Deep.Cut
namespace Go.Proofs.YtnmpejhljdkkgaaDoor
open Go.RowKit
set_option maxRecDepth 100000

theorem pEnd_out {y m c : Int} (hc : chkM y m = c) (h0 : ¬ c = 0) (w : World) : Calls Tryd.prog 24 #[.int .i64 y, .int .i64 m] w fun e w' => e = .returned (.tuple #[.int .i64 0, .int .i64 c]) ∧ w = w' := by
  have r1 := Kp.mk (fun w => mcheck_is hc w)
  have t1 : (c != 0) = true := by rw [bne_iff_ne]; exact h0
  clear hc h0
  go_enter Tryd.func24, Tryd.ntmps24
  go_wp2_with fail
  refine (r1.out _).mono ?_
  rintro e w' ⟨rfl, rfl⟩
  go_wp2_with fail
  go_ret2
  exact ⟨rfl, rfl⟩
set_option maxHeartbeats 1000000 in
theorem pEnd_in {y m v : Int} (hc : chkM y m = 0) (hv : Sm y (m + 1) - 1 = v) (w : World) (hL : LaidMo w) : Calls Tryd.prog 24 #[.int .i64 y, .int .i64 m] w fun e w' => e = .returned (.tuple #[.int .i64 v, .int .i64 0]) ∧ Below w.heap.size w w' := by
  obtain ⟨hy, hm1, hm2⟩ := (chkM_iff y m).1 hc
  have r1 := Kp.mk (fun w => mcheck_is hc w)
  have r2 := Kp.mk (fun w => starts_is hy w)
  have HB := Kp.mk (Below.refl w.heap.size w)
  have HL := Kp.mk hL
  obtain ⟨k, hk⟩ : ∃ k : Nat, (k : Int) = m := ⟨m.toNat, by omega⟩
  subst hk
  have hin := Sm_in (y := y) (show (1 : Int) ≤ (k : Int) + 1 by omega) (show (k : Int) + 1 ≤ 13 by omega)
  have hsi := Sd_in hy
  have hix := fun w => index_cln (P := Tryd.prog) (f := stF y 12) Tryd.underlying68 Tryd.underlying2 info_i64 (show k < 13 by omega) w
  have e2 : stF y 12 k = Sm y ((k : Int) + 1) := by unfold stF; rw [if_pos (by omega)]
  rw [e2] at hix
  generalize Sm y ((k : Int) + 1) = s at *
  have w1 : IntKind.i64.wrap (s - 1) = v := by rw [← hv]; exact IntWalk.i64_in _ (by omega)
  clear hin hsi e2
  clear hc hv hL hy hm1 hm2
  go_enter Tryd.func24, Tryd.ntmps24
  go_wp2_with fail
  refine (r1.out _).mono ?_
  rintro e w' ⟨rfl, rfl⟩
  go_wp2_with fail
  refine (r2.out _ (HL.out.below HB.out)).mono ?_
  rintro e w' ⟨rfl, hbl⟩
  have HB := Kp.mk (HB.out.trans (hbl.mono HB.out.size))
  clear hbl
  go_wp2_with fail
  go_ret2
  exact ⟨rfl, HB.out⟩
theorem index_is {y m v : Int} (hc : chkM y m = 0) (hv : ixM y m = v) (w : World) : Calls Tryd.prog 33 #[.int .i64 y, .int .i64 m] w fun e w' => e = .returned (.int .i64 v) ∧ w = w' := by
  obtain ⟨hy, hm1, hm2⟩ := (chkM_iff y m).1 hc
  have hyr := (isY_iff y).1 hy
  unfold ixM at hv
  have w1 : IntKind.i64.wrap (12 * y) = 12 * y := IntWalk.i64_in _ (by omega)
  have w2 : IntKind.i64.wrap (m - 1) = m - 1 := IntWalk.i64_in _ (by omega)
  have w3 : IntKind.i64.wrap (12 * y + (m - 1)) = v := by rw [show 12 * y + (m - 1) = v by omega]; exact IntWalk.i64_in _ (by omega)
  clear hc hv hy hm1 hm2 hyr
  go_enter Tryd.func33, Tryd.ntmps33
  go_wp2_with fail
  go_ret
  exact ⟨rfl, rfl⟩
theorem ofIndex_is {i z n : Int} (i0 : -9223372036854775808 ≤ i) (i1 : i ≤ 9223372036854775807) (hz : yrI i = z) (hn : moI i = n) (w : World) :
    Calls Tryd.prog 34 #[.int .i64 i] w fun e w' => e = .returned (.tuple #[.int .i64 z, .int .i64 n]) ∧ w = w' := by
  obtain ⟨r, hr⟩ : ∃ r, i % 12 = r := ⟨_, rfl⟩
  have r1 := Kp.mk (fun w => div_is (k := 12) i0 i1 (by omega) hz w)
  have r2 := Kp.mk (fun w => mod_is (k := 12) i0 i1 (by omega) (by omega) hr w)
  unfold moI at hn
  have w1 : IntKind.i64.wrap (r + 1) = n := by rw [← hn, hr]; exact IntWalk.i64_in _ (by omega)
  clear i0 i1 hz hn hr
  go_enter Tryd.func34, Tryd.ntmps34
  go_wp2_with fail
  refine (r1.out _).mono ?_
  rintro e w' ⟨rfl, rfl⟩
  go_wp2_with fail
  refine (r2.out _).mono ?_
  rintro e w' ⟨rfl, rfl⟩
  go_wp2_with fail
  go_ret2
  exact ⟨rfl, rfl⟩
theorem pAdd_out {y m k c : Int} (hc : chkM y m = c) (h0 : ¬ c = 0) (w : World) : Calls Tryd.prog 22 #[.int .i64 y, .int .i64 m, .int .i64 k] w fun e w' => e = .returned (.tuple #[.int .i64 0, .int .i64 0, .int .i64 c]) ∧ w = w' := by
  have r1 := Kp.mk (fun w => mcheck_is hc w)
  have t1 : (c != 0) = true := by rw [bne_iff_ne]; exact h0
  clear hc h0
  go_enter Tryd.func22, Tryd.ntmps22
  go_wp2_with fail
  refine (r1.out _).mono ?_
  rintro e w' ⟨rfl, rfl⟩
  go_wp2_with fail
  go_ret3
  exact ⟨rfl, rfl⟩
set_option maxHeartbeats 1000000 in
theorem pAdd_in {y m k z n : Int} (hc : chkM y m = 0) (k0 : -9223372036854775808 ≤ k) (k1 : k ≤ 9223372036854775807) (hz : yrI (ixM y m + k) = z) (hn : moI (ixM y m + k) = n) (hzy : isY z = true) (w : World) :
    Calls Tryd.prog 22 #[.int .i64 y, .int .i64 m, .int .i64 k] w fun e w' => e = .returned (.tuple #[.int .i64 z, .int .i64 n, .int .i64 0]) ∧ Below w.heap.size w w' := by
  obtain ⟨hy, hm1, hm2⟩ := (chkM_iff y m).1 hc
  have hyr := (isY_iff y).1 hy
  have r1 := Kp.mk (fun w => mcheck_is hc w)
  obtain ⟨i, hi⟩ : ∃ i, ixM y m = i := ⟨_, rfl⟩
  have hib : -200000000000000000 ≤ i ∧ i ≤ 200000000000000000 := by rw [← hi]; unfold ixM; omega
  have r2 := Kp.mk (fun w => index_is hc hi w)
  have HB := Kp.mk (Below.refl w.heap.size w)
  rw [hi] at hz hn
  have hzr := (isY_iff z).1 hzy
  have hs : -9223372036854775808 ≤ i + k ∧ i + k ≤ 9223372036854775807 := by unfold yrI at hz; omega
  have hck : chkM z n = 0 := (chkM_iff z n).2 ⟨hzy, by rw [← hn]; exact moI_in _⟩
  have r3 := Kp.mk (fun w => add_in i k w hs.1 hs.2 (by omega) (by omega) k0 k1)
  have r4 := Kp.mk (fun w => ofIndex_is hs.1 hs.2 hz hn w)
  have r5 := Kp.mk (fun w => mcheck_is hck w)
  clear hc k0 k1 hz hn hzy hy hm1 hm2 hyr hi hib hzr hs hck
  go_enter Tryd.func22, Tryd.ntmps22
  go_wp2_with fail
  refine (r1.out _).mono ?_
  rintro e w' ⟨rfl, rfl⟩
  go_wp2_with fail
  refine (r2.out _).mono ?_
  rintro e w' ⟨rfl, rfl⟩
  go_wp2_with fail
  refine (r3.out _).mono ?_
  rintro e w' ⟨rfl, hbl⟩
  have HB := Kp.mk (HB.out.trans (hbl.mono HB.out.size))
  clear hbl
  go_wp2_with fail
  refine (r4.out _).mono ?_
  rintro e w' ⟨rfl, rfl⟩
  go_wp2_with fail
  refine (r5.out _).mono ?_
  rintro e w' ⟨rfl, rfl⟩
  go_wp2_with fail
  go_ret3
  exact ⟨rfl, HB.out⟩
set_option maxHeartbeats 1000000 in
theorem pAdd_no {y m k : Int} (hc : chkM y m = 0) (k0 : -9223372036854775808 ≤ k) (k1 : k ≤ 9223372036854775807) (hzy : isY (yrI (ixM y m + k)) = false) (w : World) :
    Calls Tryd.prog 22 #[.int .i64 y, .int .i64 m, .int .i64 k] w fun e w' => e = .returned (.tuple #[.int .i64 0, .int .i64 0, .int .i64 6]) ∧ Below w.heap.size w w' := by
  obtain ⟨hy, hm1, hm2⟩ := (chkM_iff y m).1 hc
  have hyr := (isY_iff y).1 hy
  have r1 := Kp.mk (fun w => mcheck_is hc w)
  obtain ⟨i, hi⟩ : ∃ i, ixM y m = i := ⟨_, rfl⟩
  have hib : -200000000000000000 ≤ i ∧ i ≤ 200000000000000000 := by rw [← hi]; unfold ixM; omega
  have r2 := Kp.mk (fun w => index_is hc hi w)
  have HB := Kp.mk (Below.refl w.heap.size w)
  rw [hi] at hzy
  by_cases hs : -9223372036854775808 ≤ i + k ∧ i + k ≤ 9223372036854775807
  · obtain ⟨z, hz⟩ : ∃ z, yrI (i + k) = z := ⟨_, rfl⟩
    obtain ⟨n, hn⟩ : ∃ n, moI (i + k) = n := ⟨_, rfl⟩
    rw [hz] at hzy
    have hck : chkM z n = 6 := by unfold chkM; rw [hzy]; rfl
    have r3 := Kp.mk (fun w => add_in i k w hs.1 hs.2 (by omega) (by omega) k0 k1)
    have r4 := Kp.mk (fun w => ofIndex_is hs.1 hs.2 hz hn w)
    have r5 := Kp.mk (fun w => mcheck_is hck w)
    clear hc k0 k1 hz hn hzy hy hm1 hm2 hyr hi hib hs hck
    go_enter Tryd.func22, Tryd.ntmps22
    go_wp2_with fail
    refine (r1.out _).mono ?_
    rintro e w' ⟨rfl, rfl⟩
    go_wp2_with fail
    refine (r2.out _).mono ?_
    rintro e w' ⟨rfl, rfl⟩
    go_wp2_with fail
    refine (r3.out _).mono ?_
    rintro e w' ⟨rfl, hbl⟩
    have HB := Kp.mk (HB.out.trans (hbl.mono HB.out.size))
    clear hbl
    go_wp2_with fail
    refine (r4.out _).mono ?_
    rintro e w' ⟨rfl, rfl⟩
    go_wp2_with fail
    refine (r5.out _).mono ?_
    rintro e w' ⟨rfl, rfl⟩
    go_wp2_with fail
    go_ret3
    exact ⟨rfl, HB.out⟩
  · have r3 := Kp.mk (fun w => add_out i k w (by omega) (by omega) k0 k1 hs)
    clear hc k0 k1 hzy hy hm1 hm2 hyr hi hib hs
    go_enter Tryd.func22, Tryd.ntmps22
    go_wp2_with fail
    refine (r1.out _).mono ?_
    rintro e w' ⟨rfl, rfl⟩
    go_wp2_with fail
    refine (r2.out _).mono ?_
    rintro e w' ⟨rfl, rfl⟩
    go_wp2_with fail
    refine (r3.out _).mono ?_
    rintro e w' ⟨rfl, hbl⟩
    have HB := Kp.mk (HB.out.trans (hbl.mono HB.out.size))
    clear hbl
    go_wp2_with fail
    go_ret3
    exact ⟨rfl, HB.out⟩
end Go.Proofs.YtnmpejhljdkkgaaDoor
