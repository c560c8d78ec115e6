/-
  DERIVED. CONTRACTS of package months: Len, Start, End, Of, Add, Between; all of them together. Written by mkmopub.py.
-/
import Derived.Test.YtnjhbecmdgjeaaaDoorMoDev
import Derived.Test.YtnjhbecmdgjeaaaDoorMoLives
import Derived.OwnWalk
import Derived.BigQuiet
import Derived.WalkSmall
import Derived.Deep.Cut
namespace Go.Proofs.YtnjhbecmdgjeaaaDoor
open Go.RowKit

theorem pLen_out {y m c : Int} (hc : chkM y m = c) (h0 : ¬ c = 0) (w : World) : Calls Tryd.prog 8 #[.int .i64 y, .int .i64 m] w fun e w' => e = .returned (.tuple #[.int .i64 0, .int .i64 c]) ∧ w = w' := by
  have r1 := Kp.mk (fun w => mcheck_is hc w)
  have t1 : (c != 0) = true := by rw [bne_iff_ne]; exact h0
  clear hc h0
  go_enter Tryd.func8, Tryd.ntmps8
  go_wp2_with fail
  refine (r1.out _).mono ?_
  rintro e w' ⟨rfl, rfl⟩
  go_wp2_with fail
  go_ret2
  exact ⟨rfl, rfl⟩
theorem pStart_out {y m c : Int} (hc : chkM y m = c) (h0 : ¬ c = 0) (w : World) : Calls Tryd.prog 9 #[.int .i64 y, .int .i64 m] w fun e w' => e = .returned (.tuple #[.int .i64 0, .int .i64 c]) ∧ w = w' := by
  have r1 := Kp.mk (fun w => mcheck_is hc w)
  have t1 : (c != 0) = true := by rw [bne_iff_ne]; exact h0
  clear hc h0
  go_enter Tryd.func9, Tryd.ntmps9
  go_wp2_with fail
  refine (r1.out _).mono ?_
  rintro e w' ⟨rfl, rfl⟩
  go_wp2_with fail
  go_ret2
  exact ⟨rfl, rfl⟩
theorem pEnd_out {y m c : Int} (hc : chkM y m = c) (h0 : ¬ c = 0) (w : World) : Calls Tryd.prog 10 #[.int .i64 y, .int .i64 m] w fun e w' => e = .returned (.tuple #[.int .i64 0, .int .i64 c]) ∧ w = w' := by
  have r1 := Kp.mk (fun w => mcheck_is hc w)
  have t1 : (c != 0) = true := by rw [bne_iff_ne]; exact h0
  clear hc h0
  go_enter Tryd.func10, Tryd.ntmps10
  go_wp2_with fail
  refine (r1.out _).mono ?_
  rintro e w' ⟨rfl, rfl⟩
  go_wp2_with fail
  go_ret2
  exact ⟨rfl, rfl⟩
set_option maxHeartbeats 1000000 in
theorem pLen_in {y m v : Int} (hc : chkM y m = 0) (hv : lenM y m = v) (w : World) (hL : LaidMo w) : Calls Tryd.prog 8 #[.int .i64 y, .int .i64 m] w fun e w' => e = .returned (.tuple #[.int .i64 v, .int .i64 0]) ∧ Below w.heap.size w w' := by
  obtain ⟨hy, hm1, hm2⟩ := (chkM_iff y m).1 hc
  have r1 := Kp.mk (fun w => mcheck_is hc w)
  have r2 := Kp.mk (fun w => lengths_is hy w)
  have HB := Kp.mk (Below.refl w.heap.size w)
  have HL := Kp.mk hL
  obtain ⟨k, hk⟩ : ∃ k : Nat, (k : Int) + 1 = m := ⟨(m - 1).toNat, by omega⟩
  subst hk
  have e2 : lnF y k = v := by rw [← hv]; rfl
  have hix := fun w => index_cln (P := Tryd.prog) (f := lnF y) Tryd.underlying51 Tryd.underlying3 info_int (show k < 12 by omega) w
  rw [e2] at hix
  have w1 : IntKind.i64.wrap ((k : Int) + 1 - 1) = (k : Int) := by rw [show (k : Int) + 1 - 1 = k by omega]; exact IntWalk.i64_in _ (by omega)
  have w2 : IntKind.i64.wrap (k : Int) = (k : Int) := IntWalk.i64_in _ (by omega)
  clear e2
  clear hc hv hL hy hm1 hm2
  go_enter Tryd.func8, Tryd.ntmps8
  go_wp2_with fail
  refine (r1.out _).mono ?_
  rintro e w' ⟨rfl, rfl⟩
  go_wp2_with fail
  refine (r2.out _ (HL.out.below HB.out)).mono ?_
  rintro e w' ⟨rfl, hbl⟩
  have HB := Kp.mk (HB.out.trans (hbl.mono HB.out.size))
  clear hbl
  go_wp2_with fail
  go_ret2
  exact ⟨rfl, HB.out⟩
set_option maxHeartbeats 1000000 in
theorem pStart_in {y m v : Int} (hc : chkM y m = 0) (hv : Sm y m = v) (w : World) (hL : LaidMo w) : Calls Tryd.prog 9 #[.int .i64 y, .int .i64 m] w fun e w' => e = .returned (.tuple #[.int .i64 v, .int .i64 0]) ∧ Below w.heap.size w w' := by
  obtain ⟨hy, hm1, hm2⟩ := (chkM_iff y m).1 hc
  have r1 := Kp.mk (fun w => mcheck_is hc w)
  have r2 := Kp.mk (fun w => starts_is hy w)
  have HB := Kp.mk (Below.refl w.heap.size w)
  have HL := Kp.mk hL
  obtain ⟨k, hk⟩ : ∃ k : Nat, (k : Int) + 1 = m := ⟨(m - 1).toNat, by omega⟩
  subst hk
  have e2 : stF y 12 k = v := by rw [← hv]; unfold stF; rw [if_pos (by omega)]
  have hix := fun w => index_cln (P := Tryd.prog) (f := stF y 12) Tryd.underlying53 Tryd.underlying2 info_i64 (show k < 13 by omega) w
  rw [e2] at hix
  have w1 : IntKind.i64.wrap ((k : Int) + 1 - 1) = (k : Int) := by rw [show (k : Int) + 1 - 1 = k by omega]; exact IntWalk.i64_in _ (by omega)
  have w2 : IntKind.i64.wrap (k : Int) = (k : Int) := IntWalk.i64_in _ (by omega)
  clear e2
  clear hc hv hL hy hm1 hm2
  go_enter Tryd.func9, Tryd.ntmps9
  go_wp2_with fail
  refine (r1.out _).mono ?_
  rintro e w' ⟨rfl, rfl⟩
  go_wp2_with fail
  refine (r2.out _ (HL.out.below HB.out)).mono ?_
  rintro e w' ⟨rfl, hbl⟩
  have HB := Kp.mk (HB.out.trans (hbl.mono HB.out.size))
  clear hbl
  go_wp2_with fail
  go_ret2
  exact ⟨rfl, HB.out⟩
set_option maxHeartbeats 1000000 in
theorem pEnd_in {y m v : Int} (hc : chkM y m = 0) (hv : Sm y (m + 1) - 1 = v) (w : World) (hL : LaidMo w) : Calls Tryd.prog 10 #[.int .i64 y, .int .i64 m] w fun e w' => e = .returned (.tuple #[.int .i64 v, .int .i64 0]) ∧ Below w.heap.size w w' := by
  obtain ⟨hy, hm1, hm2⟩ := (chkM_iff y m).1 hc
  have r1 := Kp.mk (fun w => mcheck_is hc w)
  have r2 := Kp.mk (fun w => starts_is hy w)
  have HB := Kp.mk (Below.refl w.heap.size w)
  have HL := Kp.mk hL
  obtain ⟨k, hk⟩ : ∃ k : Nat, (k : Int) = m := ⟨m.toNat, by omega⟩
  subst hk
  have hin := Sm_in (y := y) (show (1 : Int) ≤ (k : Int) + 1 by omega) (show (k : Int) + 1 ≤ 13 by omega)
  have hsi := Sd_in hy
  have hix := fun w => index_cln (P := Tryd.prog) (f := stF y 12) Tryd.underlying53 Tryd.underlying2 info_i64 (show k < 13 by omega) w
  have e2 : stF y 12 k = Sm y ((k : Int) + 1) := by unfold stF; rw [if_pos (by omega)]
  rw [e2] at hix
  generalize Sm y ((k : Int) + 1) = s at *
  have w1 : IntKind.i64.wrap (s - 1) = v := by rw [← hv]; exact IntWalk.i64_in _ (by omega)
  clear hin hsi e2
  clear hc hv hL hy hm1 hm2
  go_enter Tryd.func10, Tryd.ntmps10
  go_wp2_with fail
  refine (r1.out _).mono ?_
  rintro e w' ⟨rfl, rfl⟩
  go_wp2_with fail
  refine (r2.out _ (HL.out.below HB.out)).mono ?_
  rintro e w' ⟨rfl, hbl⟩
  have HB := Kp.mk (HB.out.trans (hbl.mono HB.out.size))
  clear hbl
  go_wp2_with fail
  go_ret2
  exact ⟨rfl, HB.out⟩
theorem index_is {y m v : Int} (hc : chkM y m = 0) (hv : ixM y m = v) (w : World) : Calls Tryd.prog 32 #[.int .i64 y, .int .i64 m] w fun e w' => e = .returned (.int .i64 v) ∧ w = w' := by
  obtain ⟨hy, hm1, hm2⟩ := (chkM_iff y m).1 hc
  have hyr := (isY_iff y).1 hy
  unfold ixM at hv
  have w1 : IntKind.i64.wrap (12 * y) = 12 * y := IntWalk.i64_in _ (by omega)
  have w2 : IntKind.i64.wrap (m - 1) = m - 1 := IntWalk.i64_in _ (by omega)
  have w3 : IntKind.i64.wrap (12 * y + (m - 1)) = v := by rw [show 12 * y + (m - 1) = v by omega]; exact IntWalk.i64_in _ (by omega)
  clear hc hv hy hm1 hm2 hyr
  go_enter Tryd.func32, Tryd.ntmps32
  go_wp2_with fail
  go_ret
  exact ⟨rfl, rfl⟩
theorem ofIndex_is {i z n : Int} (i0 : -9223372036854775808 ≤ i) (i1 : i ≤ 9223372036854775807) (hz : yrI i = z) (hn : moI i = n) (w : World) :
    Calls Tryd.prog 33 #[.int .i64 i] w fun e w' => e = .returned (.tuple #[.int .i64 z, .int .i64 n]) ∧ w = w' := by
  obtain ⟨r, hr⟩ : ∃ r, i % 12 = r := ⟨_, rfl⟩
  have r1 := Kp.mk (fun w => div_is (k := 12) i0 i1 (by omega) hz w)
  have r2 := Kp.mk (fun w => mod_is (k := 12) i0 i1 (by omega) (by omega) hr w)
  unfold moI at hn
  have w1 : IntKind.i64.wrap (r + 1) = n := by rw [← hn, hr]; exact IntWalk.i64_in _ (by omega)
  clear i0 i1 hz hn hr
  go_enter Tryd.func33, Tryd.ntmps33
  go_wp2_with fail
  refine (r1.out _).mono ?_
  rintro e w' ⟨rfl, rfl⟩
  go_wp2_with fail
  refine (r2.out _).mono ?_
  rintro e w' ⟨rfl, rfl⟩
  go_wp2_with fail
  go_ret2
  exact ⟨rfl, rfl⟩
theorem pAdd_out {y m k c : Int} (hc : chkM y m = c) (h0 : ¬ c = 0) (w : World) : Calls Tryd.prog 17 #[.int .i64 y, .int .i64 m, .int .i64 k] w fun e w' => e = .returned (.tuple #[.int .i64 0, .int .i64 0, .int .i64 c]) ∧ w = w' := by
  have r1 := Kp.mk (fun w => mcheck_is hc w)
  have t1 : (c != 0) = true := by rw [bne_iff_ne]; exact h0
  clear hc h0
  go_enter Tryd.func17, Tryd.ntmps17
  go_wp2_with fail
  refine (r1.out _).mono ?_
  rintro e w' ⟨rfl, rfl⟩
  go_wp2_with fail
  go_ret3
  exact ⟨rfl, rfl⟩
set_option maxHeartbeats 1000000 in
theorem pAdd_in {y m k z n : Int} (hc : chkM y m = 0) (k0 : -9223372036854775808 ≤ k) (k1 : k ≤ 9223372036854775807) (hz : yrI (ixM y m + k) = z) (hn : moI (ixM y m + k) = n) (hzy : isY z = true) (w : World) :
    Calls Tryd.prog 17 #[.int .i64 y, .int .i64 m, .int .i64 k] w fun e w' => e = .returned (.tuple #[.int .i64 z, .int .i64 n, .int .i64 0]) ∧ Below w.heap.size w w' := by
  obtain ⟨hy, hm1, hm2⟩ := (chkM_iff y m).1 hc
  have hyr := (isY_iff y).1 hy
  have r1 := Kp.mk (fun w => mcheck_is hc w)
  obtain ⟨i, hi⟩ : ∃ i, ixM y m = i := ⟨_, rfl⟩
  have hib : -200000000000000000 ≤ i ∧ i ≤ 200000000000000000 := by rw [← hi]; unfold ixM; omega
  have r2 := Kp.mk (fun w => index_is hc hi w)
  have HB := Kp.mk (Below.refl w.heap.size w)
  rw [hi] at hz hn
  have hzr := (isY_iff z).1 hzy
  have hs : -9223372036854775808 ≤ i + k ∧ i + k ≤ 9223372036854775807 := by unfold yrI at hz; omega
  have hck : chkM z n = 0 := (chkM_iff z n).2 ⟨hzy, by rw [← hn]; exact moI_in _⟩
  have r3 := Kp.mk (fun w => add_in i k w hs.1 hs.2 (by omega) (by omega) k0 k1)
  have r4 := Kp.mk (fun w => ofIndex_is hs.1 hs.2 hz hn w)
  have r5 := Kp.mk (fun w => mcheck_is hck w)
  clear hc k0 k1 hz hn hzy hy hm1 hm2 hyr hi hib hzr hs hck
  go_enter Tryd.func17, Tryd.ntmps17
  go_wp2_with fail
  refine (r1.out _).mono ?_
  rintro e w' ⟨rfl, rfl⟩
  go_wp2_with fail
  refine (r2.out _).mono ?_
  rintro e w' ⟨rfl, rfl⟩
  go_wp2_with fail
  refine (r3.out _).mono ?_
  rintro e w' ⟨rfl, hbl⟩
  have HB := Kp.mk (HB.out.trans (hbl.mono HB.out.size))
  clear hbl
  go_wp2_with fail
  refine (r4.out _).mono ?_
  rintro e w' ⟨rfl, rfl⟩
  go_wp2_with fail
  refine (r5.out _).mono ?_
  rintro e w' ⟨rfl, rfl⟩
  go_wp2_with fail
  go_ret3
  exact ⟨rfl, HB.out⟩
set_option maxHeartbeats 1000000 in
theorem pAdd_no {y m k : Int} (hc : chkM y m = 0) (k0 : -9223372036854775808 ≤ k) (k1 : k ≤ 9223372036854775807) (hzy : isY (yrI (ixM y m + k)) = false) (w : World) :
    Calls Tryd.prog 17 #[.int .i64 y, .int .i64 m, .int .i64 k] w fun e w' => e = .returned (.tuple #[.int .i64 0, .int .i64 0, .int .i64 6]) ∧ Below w.heap.size w w' := by
  obtain ⟨hy, hm1, hm2⟩ := (chkM_iff y m).1 hc
  have hyr := (isY_iff y).1 hy
  have r1 := Kp.mk (fun w => mcheck_is hc w)
  obtain ⟨i, hi⟩ : ∃ i, ixM y m = i := ⟨_, rfl⟩
  have hib : -200000000000000000 ≤ i ∧ i ≤ 200000000000000000 := by rw [← hi]; unfold ixM; omega
  have r2 := Kp.mk (fun w => index_is hc hi w)
  have HB := Kp.mk (Below.refl w.heap.size w)
  rw [hi] at hzy
  by_cases hs : -9223372036854775808 ≤ i + k ∧ i + k ≤ 9223372036854775807
  · obtain ⟨z, hz⟩ : ∃ z, yrI (i + k) = z := ⟨_, rfl⟩
    obtain ⟨n, hn⟩ : ∃ n, moI (i + k) = n := ⟨_, rfl⟩
    rw [hz] at hzy
    have hck : chkM z n = 6 := by unfold chkM; rw [hzy]; rfl
    have r3 := Kp.mk (fun w => add_in i k w hs.1 hs.2 (by omega) (by omega) k0 k1)
    have r4 := Kp.mk (fun w => ofIndex_is hs.1 hs.2 hz hn w)
    have r5 := Kp.mk (fun w => mcheck_is hck w)
    clear hc k0 k1 hz hn hzy hy hm1 hm2 hyr hi hib hs hck
    go_enter Tryd.func17, Tryd.ntmps17
    go_wp2_with fail
    refine (r1.out _).mono ?_
    rintro e w' ⟨rfl, rfl⟩
    go_wp2_with fail
    refine (r2.out _).mono ?_
    rintro e w' ⟨rfl, rfl⟩
    go_wp2_with fail
    refine (r3.out _).mono ?_
    rintro e w' ⟨rfl, hbl⟩
    have HB := Kp.mk (HB.out.trans (hbl.mono HB.out.size))
    clear hbl
    go_wp2_with fail
    refine (r4.out _).mono ?_
    rintro e w' ⟨rfl, rfl⟩
    go_wp2_with fail
    refine (r5.out _).mono ?_
    rintro e w' ⟨rfl, rfl⟩
    go_wp2_with fail
    go_ret3
    exact ⟨rfl, HB.out⟩
  · have r3 := Kp.mk (fun w => add_out i k w (by omega) (by omega) k0 k1 hs)
    clear hc k0 k1 hzy hy hm1 hm2 hyr hi hib hs
    go_enter Tryd.func17, Tryd.ntmps17
    go_wp2_with fail
    refine (r1.out _).mono ?_
    rintro e w' ⟨rfl, rfl⟩
    go_wp2_with fail
    refine (r2.out _).mono ?_
    rintro e w' ⟨rfl, rfl⟩
    go_wp2_with fail
    refine (r3.out _).mono ?_
    rintro e w' ⟨rfl, hbl⟩
    have HB := Kp.mk (HB.out.trans (hbl.mono HB.out.size))
    clear hbl
    go_wp2_with fail
    go_ret3
    exact ⟨rfl, HB.out⟩
theorem pBet_out {y m z n c : Int} (h0 : ¬ c = 0) (hc : chkM y m = c ∨ chkM y m = 0 ∧ chkM z n = c) (w : World) :
    Calls Tryd.prog 24 #[.int .i64 y, .int .i64 m, .int .i64 z, .int .i64 n] w fun e w' => e = .returned (.tuple #[.int .i64 0, .int .i64 c]) ∧ w = w' := by
  have t1 : (c != 0) = true := by rw [bne_iff_ne]; exact h0
  clear h0
  rcases hc with hc | ⟨ha, hc⟩
  · have r1 := Kp.mk (fun w => mcheck_is hc w)
    clear hc
    go_enter Tryd.func24, Tryd.ntmps24
    go_wp2_with fail
    refine (r1.out _).mono ?_
    rintro e w' ⟨rfl, rfl⟩
    go_wp2_with fail
    go_ret2
    exact ⟨rfl, rfl⟩
  · have r1 := Kp.mk (fun w => mcheck_is ha w)
    have r2 := Kp.mk (fun w => mcheck_is hc w)
    clear hc ha
    go_enter Tryd.func24, Tryd.ntmps24
    go_wp2_with fail
    refine (r1.out _).mono ?_
    rintro e w' ⟨rfl, rfl⟩
    go_wp2_with fail
    refine (r2.out _).mono ?_
    rintro e w' ⟨rfl, rfl⟩
    go_wp2_with fail
    go_ret2
    exact ⟨rfl, rfl⟩
set_option maxHeartbeats 1000000 in
theorem pBet_in {y m z n v : Int} (ha : chkM y m = 0) (hb : chkM z n = 0) (hv : ixM z n - ixM y m = v) (w : World) :
    Calls Tryd.prog 24 #[.int .i64 y, .int .i64 m, .int .i64 z, .int .i64 n] w fun e w' => e = .returned (.tuple #[.int .i64 v, .int .i64 0]) ∧ Below w.heap.size w w' := by
  have hym := (chkM_iff y m).1 ha
  have hzn := (chkM_iff z n).1 hb
  have hyr := (isY_iff y).1 hym.1
  have hzr := (isY_iff z).1 hzn.1
  obtain ⟨i, hi⟩ : ∃ i, ixM y m = i := ⟨_, rfl⟩
  obtain ⟨j, hj⟩ : ∃ j, ixM z n = j := ⟨_, rfl⟩
  have hib : -200000000000000000 ≤ i ∧ i ≤ 200000000000000000 := by rw [← hi]; unfold ixM; omega
  have hjb : -200000000000000000 ≤ j ∧ j ≤ 200000000000000000 := by rw [← hj]; unfold ixM; omega
  rw [hi, hj] at hv
  have w1 : IntKind.i64.wrap (j - i) = v := by rw [hv]; exact IntWalk.i64_in _ (by omega)
  have r1 := Kp.mk (fun w => mcheck_is ha w)
  have r2 := Kp.mk (fun w => mcheck_is hb w)
  have r3 : Kp (∀ w, Calls Tryd.prog 32 #[.int .i64 z, .int .i64 n] w fun e w' => e = .returned (.int .i64 j) ∧ w = w') := Kp.mk (fun w => index_is hb hj w)
  have r4 : Kp (∀ w, Calls Tryd.prog 32 #[.int .i64 y, .int .i64 m] w fun e w' => e = .returned (.int .i64 i) ∧ w = w') := Kp.mk (fun w => index_is ha hi w)
  have HB := Kp.mk (Below.refl w.heap.size w)
  clear ha hb hv hym hzn hyr hzr hi hj hib hjb
  go_enter Tryd.func24, Tryd.ntmps24
  go_wp2_with fail
  refine (r1.out _).mono ?_
  rintro e w' ⟨rfl, rfl⟩
  go_wp2_with fail
  refine (r2.out _).mono ?_
  rintro e w' ⟨rfl, rfl⟩
  go_wp2_with fail
  refine (r3.out _).mono ?_
  rintro e w' ⟨rfl, rfl⟩
  go_wp2_with fail
  refine (r4.out _).mono ?_
  rintro e w' ⟨rfl, rfl⟩
  go_wp2_with fail
  go_ret2
  exact ⟨rfl, HB.out⟩
theorem pOf_out {d y : Int} (h0 : -9223372036854775808 ≤ d) (h1 : d ≤ 9223372036854775807) (hd : YearHas y d) (hy : isY y = false) (w : World) (hL : LaidMo w) :
    Calls Tryd.prog 19 #[.int .i64 d] w fun e w' => e = .returned (.tuple #[.int .i64 0, .int .i64 0, .int .i64 6]) ∧ Below w.heap.size w w' := by
  have r1 := Kp.mk (fun w (h : LaidMo w) => of_out h0 h1 hd hy w h.yr)
  have HL := Kp.mk hL
  have HB := Kp.mk (Below.refl w.heap.size w)
  clear h0 h1 hd hy hL
  go_enter Tryd.func19, Tryd.ntmps19
  go_wp2_with fail
  refine (r1.out _ (HL.out.below HB.out)).mono ?_
  rintro e w' ⟨rfl, hbl⟩
  have HB := Kp.mk (HB.out.trans (hbl.mono HB.out.size))
  clear hbl
  go_wp2_with fail
  go_ret3
  exact ⟨rfl, HB.out⟩
/-- a month's first day is at most the day exactly if the month is at most the day's -/
theorem month_le {y m d : Int} (h : MonthHas y m d) (k : Nat) (hk : k < 12) : decide (stF y 12 k ≤ d) = decide ((k : Int) < m) := by
  have e : stF y 12 k = Sm y ((k : Int) + 1) := by unfold stF; rw [if_pos (by omega)]
  rw [e]
  have h0 := h.m0
  have h1 := h.m1
  have h2 := h.lo
  have h3 := h.hi
  by_cases g : (k : Int) < m
  · have := Sm_le (y := y) (show (1 : Int) ≤ (k : Int) + 1 by omega) (show (k : Int) + 1 ≤ m by omega) (show m ≤ 13 by omega)
    rw [decide_eq_true g]; exact decide_eq_true (by omega)
  · have := Sm_le (y := y) (show (1 : Int) ≤ m + 1 by omega) (show m + 1 ≤ (k : Int) + 1 by omega) (show (k : Int) + 1 ≤ 13 by omega)
    rw [decide_eq_false g]; exact decide_eq_false (by omega)
theorem least_step {m : Int} {k : Nat} (g : (k : Int) < m) : (k : Int) + 1 = (if ((k + 1 : Nat) : Int) ≤ m then ((k + 1 : Nat) : Int) else m) := by rw [if_pos (by omega)]; omega
set_option maxHeartbeats 1000000 in
theorem pOf_in {d y m : Int} (h0 : -9223372036854775808 ≤ d) (h1 : d ≤ 9223372036854775807) (hy : isY y = true) (hd : MonthHas y m d) (w : World) (hL : LaidMo w) :
    Calls Tryd.prog 19 #[.int .i64 d] w fun e w' => e = .returned (.tuple #[.int .i64 y, .int .i64 m, .int .i64 0]) ∧ Below w.heap.size w w' := by
  have hm0 := hd.m0
  have hm1 := hd.m1
  have r1 := Kp.mk (fun w (h : LaidMo w) => of_in h0 h1 hd.year hy w h.yr)
  have r2 := Kp.mk (fun w => starts_is hy w)
  have HC := Kp.mk (month_le hd)
  have HL := Kp.mk hL
  have HB := Kp.mk (Below.refl w.heap.size w)
  have HM := Kp.mk (And.intro hm0 hm1)
  clear h0 h1 hd hy hL hm0 hm1
  go_enter Tryd.func19, Tryd.ntmps19
  go_wp2_with fail
  refine (r1.out _ (HL.out.below HB.out)).mono ?_
  rintro e w' ⟨rfl, hbl⟩
  have HB := Kp.mk (HB.out.trans (hbl.mono HB.out.size))
  clear hbl
  go_wp2_with fail
  refine (r2.out _ (HL.out.below HB.out)).mono ?_
  rintro e w' ⟨rfl, hbl⟩
  have HB := Kp.mk (HB.out.trans (hbl.mono HB.out.size))
  clear hbl
  have hsz := Kp.mk HB.out.size
  have HR := Kp.mk (row_new w' 13 (fun _ => 0) 53)
  have HB := Kp.mk (HB.out.alloc HB.out.size (.cells (cln 13 fun _ => 0) 53))
  go_wp2_with (first
    | refine wpList_store_row' rfl 53 (.tmp 6) (.tmp 17) rfl w'.heap.size (cln 13 (stF y 12)) rfl rfl 53 (cln 13 fun _ => 0) HR.out.heap info13 rfl (cln_one _ _) ?_)
  have HR := Kp.mk (HR.out.setRow (stF y 12))
  have HB := Kp.mk (below_setRow HB.out (by have := HL; exact hsz.out) (cln 13 (stF y 12)))
  clear HL r1 r2
  go_loopw [3, 18] (fun b i wr => ∃ k : Nat, k ≤ 12 ∧ i = .int .i64 k ∧ b = .int .i64 (if (k : Int) ≤ m then (k : Int) else m) ∧ Kp (Row wr w'.heap.size 53 13 (stF y 12)) ∧ Kp (Below w.heap.size w wr)) (fun _ i _ => 12 - (intOf i).toNat)
  case atStart => exact ⟨0, by omega, rfl, by rw [if_pos (by have := HM.out; omega)]; rfl, HR, HB⟩
  case round =>
    obtain ⟨k, hk, rfl, rfl, HR, HB⟩ := hrel
    by_cases hlt : k < 12
    · have c1 : wr.cell? ⟨w'.heap.size, k, none⟩ = some (.int .i64 (stF y 12 k)) := HR.out.cell (by omega)
      have t1 := HC.out k hlt
      have w2 : IntKind.i64.wrap ((k : Int) + 1) = (k : Int) + 1 := IntWalk.i64_in _ (by omega)
      by_cases g : (k : Int) < m
      · rw [decide_eq_true g] at t1
        have HS := Kp.mk (least_step g)
        have HU := Kp.mk (show (if (k : Int) ≤ m then (k : Int) else m) = k by rw [if_pos (by omega)])
        clear g hk
        go_wp2_with fail
        go_roundw
        case rel => exact ⟨k + 1, by omega, by go_num, by rw [HS.out], HR, HB⟩
        case measure => simp [intOf]; omega
      · rw [decide_eq_false g] at t1
        have HS := Kp.mk (show (if (k : Int) ≤ m then (k : Int) else m) = (if ((k + 1 : Nat) : Int) ≤ m then ((k + 1 : Nat) : Int) else m) by split <;> split <;> omega)
        clear g hk
        go_wp2_with fail
        go_roundw
        case rel => exact ⟨k + 1, by omega, by go_num, by rw [HS.out], HR, HB⟩
        case measure => simp [intOf]; omega
    · obtain rfl : k = 12 := by omega
      have HE := Kp.mk (show (if ((12 : Nat) : Int) ≤ m then ((12 : Nat) : Int) else m) = m by have := HM.out; split <;> omega)
      rw [HE.out]
      go_wp2_with fail
      go_ret3
      exact ⟨rfl, HB.out⟩
theorem monthCore : MonthCore LaidMo where
  keep h hb := h.below hb
  check w _ _ _ _ _ hc := same_below (mcheck_is hc w)
  len_in w hL _ _ _ _ hc hv := pLen_in hc hv w hL
  len_out w _ _ _ _ _ hc h0 := same_below (pLen_out hc h0 w)
  start_in w hL _ _ _ _ hc hv := pStart_in hc hv w hL
  start_out w _ _ _ _ _ hc h0 := same_below (pStart_out hc h0 w)
  end_in w hL _ _ _ _ hc hv := pEnd_in hc hv w hL
  end_out w _ _ _ _ _ hc h0 := same_below (pEnd_out hc h0 w)
  of_in w hL h0 h1 hy hd := pOf_in h0 h1 hy hd w hL
  of_out w hL h0 h1 hd hy := pOf_out h0 h1 hd hy w hL
  add_in w _ _ _ _ _ k0 k1 hc hz hn hzy := pAdd_in hc k0 k1 hz hn hzy w
  add_no w _ _ _ _ _ k0 k1 hc hzy := pAdd_no hc k0 k1 hzy w
  add_out w _ _ _ _ _ _ _ hc h0 := same_below (pAdd_out hc h0 w)
  between_in w _ _ _ _ _ _ _ _ _ ha hb hv := pBet_in ha hb hv w
  between_out w _ _ _ _ _ _ _ _ _ h0 hc := same_below (pBet_out h0 hc w)
theorem monthFns : MonthFns LaidMo := { monthCore with lives := fun w hL => lives_of monthCore w hL }
end Go.Proofs.YtnjhbecmdgjeaaaDoor
