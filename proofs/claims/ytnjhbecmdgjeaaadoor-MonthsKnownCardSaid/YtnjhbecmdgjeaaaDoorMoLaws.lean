/-
  DERIVED. WALKS of the laws of layer 5 (months), given the contracts of package months. Written by mkmonths.py.
-/
import Derived.Test.YtnjhbecmdgjeaaaDoorMoRef
import Derived.BigQuiet
import Derived.WalkSmall
import Derived.Deep.Cut
namespace Go.Proofs.YtnjhbecmdgjeaaaDoor
open Go.RowKit

/-- what package months gives -/
structure MonthCore (I : World → Prop) : Prop where
  keep : ∀ {w w' : World}, I w → Below w.heap.size w w' → I w'
  check : ∀ {y m c : Int} (w : World), I w → -9223372036854775808 ≤ y → y ≤ 9223372036854775807 → -9223372036854775808 ≤ m → m ≤ 9223372036854775807 → chkM y m = c → Calls Tryd.prog 12 #[.int .i64 y, .int .i64 m] w fun e w' => e = .returned (.int .i64 c) ∧ Below w.heap.size w w'
  len_in : ∀ {y m v : Int} (w : World), I w → -9223372036854775808 ≤ y → y ≤ 9223372036854775807 → -9223372036854775808 ≤ m → m ≤ 9223372036854775807 → chkM y m = 0 → lenM y m = v → Calls Tryd.prog 8 #[.int .i64 y, .int .i64 m] w fun e w' => e = .returned (.tuple #[.int .i64 v, .int .i64 0]) ∧ Below w.heap.size w w'
  len_out : ∀ {y m c : Int} (w : World), I w → -9223372036854775808 ≤ y → y ≤ 9223372036854775807 → -9223372036854775808 ≤ m → m ≤ 9223372036854775807 → chkM y m = c → ¬ c = 0 → Calls Tryd.prog 8 #[.int .i64 y, .int .i64 m] w fun e w' => e = .returned (.tuple #[.int .i64 0, .int .i64 c]) ∧ Below w.heap.size w w'
  start_in : ∀ {y m v : Int} (w : World), I w → -9223372036854775808 ≤ y → y ≤ 9223372036854775807 → -9223372036854775808 ≤ m → m ≤ 9223372036854775807 → chkM y m = 0 → Sm y m = v → Calls Tryd.prog 9 #[.int .i64 y, .int .i64 m] w fun e w' => e = .returned (.tuple #[.int .i64 v, .int .i64 0]) ∧ Below w.heap.size w w'
  start_out : ∀ {y m c : Int} (w : World), I w → -9223372036854775808 ≤ y → y ≤ 9223372036854775807 → -9223372036854775808 ≤ m → m ≤ 9223372036854775807 → chkM y m = c → ¬ c = 0 → Calls Tryd.prog 9 #[.int .i64 y, .int .i64 m] w fun e w' => e = .returned (.tuple #[.int .i64 0, .int .i64 c]) ∧ Below w.heap.size w w'
  end_in : ∀ {y m v : Int} (w : World), I w → -9223372036854775808 ≤ y → y ≤ 9223372036854775807 → -9223372036854775808 ≤ m → m ≤ 9223372036854775807 → chkM y m = 0 → Sm y (m + 1) - 1 = v → Calls Tryd.prog 10 #[.int .i64 y, .int .i64 m] w fun e w' => e = .returned (.tuple #[.int .i64 v, .int .i64 0]) ∧ Below w.heap.size w w'
  end_out : ∀ {y m c : Int} (w : World), I w → -9223372036854775808 ≤ y → y ≤ 9223372036854775807 → -9223372036854775808 ≤ m → m ≤ 9223372036854775807 → chkM y m = c → ¬ c = 0 → Calls Tryd.prog 10 #[.int .i64 y, .int .i64 m] w fun e w' => e = .returned (.tuple #[.int .i64 0, .int .i64 c]) ∧ Below w.heap.size w w'
  of_in : ∀ {d y m : Int} (w : World), I w → -9223372036854775808 ≤ d → d ≤ 9223372036854775807 → isY y = true → MonthHas y m d → Calls Tryd.prog 19 #[.int .i64 d] w fun e w' => e = .returned (.tuple #[.int .i64 y, .int .i64 m, .int .i64 0]) ∧ Below w.heap.size w w'
  of_out : ∀ {d y : Int} (w : World), I w → -9223372036854775808 ≤ d → d ≤ 9223372036854775807 → YearHas y d → isY y = false → Calls Tryd.prog 19 #[.int .i64 d] w fun e w' => e = .returned (.tuple #[.int .i64 0, .int .i64 0, .int .i64 6]) ∧ Below w.heap.size w w'
  add_in : ∀ {y m k z n : Int} (w : World), I w → -9223372036854775808 ≤ y → y ≤ 9223372036854775807 → -9223372036854775808 ≤ m → m ≤ 9223372036854775807 → -9223372036854775808 ≤ k → k ≤ 9223372036854775807 → chkM y m = 0 → yrI (ixM y m + k) = z → moI (ixM y m + k) = n → isY z = true → Calls Tryd.prog 17 #[.int .i64 y, .int .i64 m, .int .i64 k] w fun e w' => e = .returned (.tuple #[.int .i64 z, .int .i64 n, .int .i64 0]) ∧ Below w.heap.size w w'
  add_no : ∀ {y m k : Int} (w : World), I w → -9223372036854775808 ≤ y → y ≤ 9223372036854775807 → -9223372036854775808 ≤ m → m ≤ 9223372036854775807 → -9223372036854775808 ≤ k → k ≤ 9223372036854775807 → chkM y m = 0 → isY (yrI (ixM y m + k)) = false → Calls Tryd.prog 17 #[.int .i64 y, .int .i64 m, .int .i64 k] w fun e w' => e = .returned (.tuple #[.int .i64 0, .int .i64 0, .int .i64 6]) ∧ Below w.heap.size w w'
  add_out : ∀ {y m k c : Int} (w : World), I w → -9223372036854775808 ≤ y → y ≤ 9223372036854775807 → -9223372036854775808 ≤ m → m ≤ 9223372036854775807 → -9223372036854775808 ≤ k → k ≤ 9223372036854775807 → chkM y m = c → ¬ c = 0 → Calls Tryd.prog 17 #[.int .i64 y, .int .i64 m, .int .i64 k] w fun e w' => e = .returned (.tuple #[.int .i64 0, .int .i64 0, .int .i64 c]) ∧ Below w.heap.size w w'
  between_in : ∀ {y m z n v : Int} (w : World), I w → -9223372036854775808 ≤ y → y ≤ 9223372036854775807 → -9223372036854775808 ≤ m → m ≤ 9223372036854775807 → -9223372036854775808 ≤ z → z ≤ 9223372036854775807 → -9223372036854775808 ≤ n → n ≤ 9223372036854775807 → chkM y m = 0 → chkM z n = 0 → ixM z n - ixM y m = v → Calls Tryd.prog 24 #[.int .i64 y, .int .i64 m, .int .i64 z, .int .i64 n] w fun e w' => e = .returned (.tuple #[.int .i64 v, .int .i64 0]) ∧ Below w.heap.size w w'
  between_out : ∀ {y m z n c : Int} (w : World), I w → -9223372036854775808 ≤ y → y ≤ 9223372036854775807 → -9223372036854775808 ≤ m → m ≤ 9223372036854775807 → -9223372036854775808 ≤ z → z ≤ 9223372036854775807 → -9223372036854775808 ≤ n → n ≤ 9223372036854775807 → ¬ c = 0 → (chkM y m = c ∨ chkM y m = 0 ∧ chkM z n = c) → Calls Tryd.prog 24 #[.int .i64 y, .int .i64 m, .int .i64 z, .int .i64 n] w fun e w' => e = .returned (.tuple #[.int .i64 0, .int .i64 c]) ∧ Below w.heap.size w w'
structure MonthFns (I : World → Prop) : Prop extends MonthCore I where
  lives : ∀ (w : World), I w → Calls Tryd.prog 13 #[] w fun e w' => e = .returned (.bool true) ∧ Below w.heap.size w w'
/-! the statements' own functions -/
def numB (n e want : Int) : Bool := n == want && e == 0
def monB (y m e z n : Int) : Bool := y == z && (m == n && e == 0)
theorem num_is {n e want : Int} {b : Bool} (w : World) (h : numB n e want = b) :
    Calls Tryd.prog 18 #[.int .i64 n, .int .i64 e, .int .i64 want] w fun x w' => x = .returned (.bool b) ∧ w = w' := by
  unfold numB at h
  cases g : (n == want)
  · rw [g] at h
    subst h
    go_enter Tryd.func18, Tryd.ntmps18
    go_wp2_with fail
    go_ret
    exact ⟨rfl, rfl⟩
  · rw [g] at h
    subst h
    go_enter Tryd.func18, Tryd.ntmps18
    go_wp2_with fail
    go_ret
    exact ⟨rfl, rfl⟩
theorem month_is (y m : Int) (w : World) :
    Calls Tryd.prog 22 #[.int .i64 y, .int .i64 m, .int .i64 0, .int .i64 y, .int .i64 m] w fun x w' => x = .returned (.bool true) ∧ w = w' := by
  go_enter Tryd.func22, Tryd.ntmps22
  go_wp2_with fail
  go_ret
  exact ⟨rfl, rfl⟩
theorem numB_self (a : Int) : numB a 0 a = true := by unfold numB; simp
theorem chk_cases (y m : Int) : chkM y m = 0 ∨ chkM y m = 6 ∨ chkM y m = 7 := by unfold chkM; split <;> (try split) <;> simp
set_option maxRecDepth 100000 in
set_option maxHeartbeats 4000000 in
theorem lawDays_any {I : World → Prop} (C : MonthFns I) (y m : Int) (w : World) (hI : I w) (y0 : -9223372036854775808 ≤ y) (y1 : y ≤ 9223372036854775807) (m0 : -9223372036854775808 ≤ m) (m1 : m ≤ 9223372036854775807) :
    Calls Tryd.prog 3 #[.int .i64 y, .int .i64 m] w fun e w' => e = .returned (.bool true) ∧ Below w.heap.size w w' := by
  have HB := Kp.mk (Below.refl w.heap.size w)
  have HI := Kp.mk (fun (v : World) (h : Below w.heap.size w v) => C.keep hI h)
  clear hI
  have rl := Kp.mk (fun v (hw : Below w.heap.size w v) => C.lives v (HI.out v hw))
  obtain ⟨c, hc⟩ : ∃ c, chkM y m = c := ⟨_, rfl⟩
  by_cases h0 : c = 0
  · subst h0
    have hym := (chkM_iff y m).1 hc
    have hyr := (isY_iff y).1 hym.1
    obtain ⟨v, hv⟩ : ∃ v, lenM y m = v := ⟨_, rfl⟩
    obtain ⟨s, hs⟩ : ∃ s, Sm y m = s := ⟨_, rfl⟩
    obtain ⟨t, ht⟩ : ∃ t, Sm y (m + 1) - 1 = t := ⟨_, rfl⟩
    have hnx := Sm_next (y := y) hym.2.1 hym.2.2
    have hsu := Sm_succ (y := y) hym.2.1 hym.2.2
    have hin := Sm_in (y := y) hym.2.1 (show m ≤ 13 by omega)
    have hsi := Sd_in hym.1
    have hll := lenM_in y m
    have r1 := Kp.mk (fun v (hw : Below w.heap.size w v) => C.len_in v (HI.out v hw) y0 y1 m0 m1 hc hv)
    have r2 := Kp.mk (fun v (hw : Below w.heap.size w v) => C.start_in v (HI.out v hw) y0 y1 m0 m1 hc hs)
    have r3 := Kp.mk (fun v (hw : Below w.heap.size w v) => C.end_in v (HI.out v hw) y0 y1 m0 m1 hc ht)
    have r4 := Kp.mk (fun w => refChk_is w hc)
    have r5 := Kp.mk (fun v (hw : Below w.heap.size w v) => C.check v (HI.out v hw) y0 y1 m0 m1 hc)
    have r6 := Kp.mk (fun w => refMLen_is w hv)
    have r7 := Kp.mk (fun w => refMStart_is w hym.1 hym.2.1 hym.2.2 hs)
    have r8 := Kp.mk (fun w => refMEnd_is w hym.1 hym.2.1 hym.2.2 ht)
    cases hb : isY (yrI (ixM y m + 1))
    · have q1 := Kp.mk (fun v (hw : Below w.heap.size w v) => C.add_no (k := 1) v (HI.out v hw) y0 y1 m0 m1 (by decide) (by decide) hc hb)
      have hyy : y = 10000000000000000 ∧ m = 12 := by
        have h1 : ¬ (isY (yrI (ixM y m + 1)) = true) := by rw [hb]; decide
        rw [isY_iff] at h1
        unfold yrI ixM at h1
        omega
      obtain ⟨rfl, rfl⟩ := hyy
      clear C hc hym hyr hv hs ht hnx hsu hin hsi hll hb y0 y1 m0 m1
      go_enter Tryd.func3, Tryd.ntmps3
      go_wp2_with fail
      refine (r1.out _ HB.out).mono ?_
      rintro e w' ⟨rfl, hbl⟩
      have HB := Kp.mk (HB.out.trans (hbl.mono HB.out.size))
      clear hbl
      go_wp2_with fail
      refine (r2.out _ HB.out).mono ?_
      rintro e w' ⟨rfl, hbl⟩
      have HB := Kp.mk (HB.out.trans (hbl.mono HB.out.size))
      clear hbl
      go_wp2_with fail
      refine (r3.out _ HB.out).mono ?_
      rintro e w' ⟨rfl, hbl⟩
      have HB := Kp.mk (HB.out.trans (hbl.mono HB.out.size))
      clear hbl
      go_wp2_with fail
      refine (r4.out _).mono ?_
      rintro e w' ⟨rfl, rfl⟩
      go_wp2_with fail
      refine (r5.out _ HB.out).mono ?_
      rintro e w' ⟨rfl, hbl⟩
      have HB := Kp.mk (HB.out.trans (hbl.mono HB.out.size))
      clear hbl
      go_wp2_with fail
      refine (r6.out _).mono ?_
      rintro e w' ⟨rfl, rfl⟩
      go_wp2_with fail
      refine (r7.out _).mono ?_
      rintro e w' ⟨rfl, rfl⟩
      go_wp2_with fail
      refine (r8.out _).mono ?_
      rintro e w' ⟨rfl, rfl⟩
      go_wp2_with fail
      refine (q1.out _ HB.out).mono ?_
      rintro e w' ⟨rfl, hbl⟩
      have HB := Kp.mk (HB.out.trans (hbl.mono HB.out.size))
      clear hbl
      go_wp2_with fail
      refine (rl.out _ HB.out).mono ?_
      rintro e w' ⟨rfl, hbl⟩
      have HB := Kp.mk (HB.out.trans (hbl.mono HB.out.size))
      clear hbl
      go_wp2_with fail
      go_ret
      exact ⟨rfl, HB.out⟩
    · obtain ⟨z, hz⟩ : ∃ z, yrI (ixM y m + 1) = z := ⟨_, rfl⟩
      obtain ⟨k, hk⟩ : ∃ k, moI (ixM y m + 1) = k := ⟨_, rfl⟩
      rw [hz] at hb
      have hzr := (isY_iff z).1 hb
      have hkr := moI_in (ixM y m + 1)
      rw [hz, hk] at hnx
      rw [hk] at hkr
      have hck : chkM z k = 0 := (chkM_iff z k).2 ⟨hb, hkr⟩
      have q1 := Kp.mk (fun v (hw : Below w.heap.size w v) => C.add_in (k := 1) v (HI.out v hw) y0 y1 m0 m1 (by decide) (by decide) hc hz hk hb)
      have q2 := Kp.mk (fun v (hw : Below w.heap.size w v) => C.start_in (y := z) (m := k) (v := t + 1) v (HI.out v hw) (by omega) (by omega) (by omega) (by omega) hck (by omega))
      have n1 := Kp.mk (fun w => num_is w (numB_self (t + 1)))
      have w1 : IntKind.i64.wrap (t + 1) = t + 1 := IntWalk.i64_in _ (by omega)
      clear C hc hym hyr hv hs ht hnx hsu hin hsi hll hb y0 y1 m0 m1 hz hk hzr hkr hck
      go_enter Tryd.func3, Tryd.ntmps3
      go_wp2_with fail
      refine (r1.out _ HB.out).mono ?_
      rintro e w' ⟨rfl, hbl⟩
      have HB := Kp.mk (HB.out.trans (hbl.mono HB.out.size))
      clear hbl
      go_wp2_with fail
      refine (r2.out _ HB.out).mono ?_
      rintro e w' ⟨rfl, hbl⟩
      have HB := Kp.mk (HB.out.trans (hbl.mono HB.out.size))
      clear hbl
      go_wp2_with fail
      refine (r3.out _ HB.out).mono ?_
      rintro e w' ⟨rfl, hbl⟩
      have HB := Kp.mk (HB.out.trans (hbl.mono HB.out.size))
      clear hbl
      go_wp2_with fail
      refine (r4.out _).mono ?_
      rintro e w' ⟨rfl, rfl⟩
      go_wp2_with fail
      refine (r5.out _ HB.out).mono ?_
      rintro e w' ⟨rfl, hbl⟩
      have HB := Kp.mk (HB.out.trans (hbl.mono HB.out.size))
      clear hbl
      go_wp2_with fail
      refine (r6.out _).mono ?_
      rintro e w' ⟨rfl, rfl⟩
      go_wp2_with fail
      refine (r7.out _).mono ?_
      rintro e w' ⟨rfl, rfl⟩
      go_wp2_with fail
      refine (r8.out _).mono ?_
      rintro e w' ⟨rfl, rfl⟩
      go_wp2_with fail
      refine (q1.out _ HB.out).mono ?_
      rintro e w' ⟨rfl, hbl⟩
      have HB := Kp.mk (HB.out.trans (hbl.mono HB.out.size))
      clear hbl
      go_wp2_with fail
      refine (q2.out _ HB.out).mono ?_
      rintro e w' ⟨rfl, hbl⟩
      have HB := Kp.mk (HB.out.trans (hbl.mono HB.out.size))
      clear hbl
      go_wp2_with fail
      refine (n1.out _).mono ?_
      rintro e w' ⟨rfl, rfl⟩
      go_wp2_with fail
      refine (rl.out _ HB.out).mono ?_
      rintro e w' ⟨rfl, hbl⟩
      have HB := Kp.mk (HB.out.trans (hbl.mono HB.out.size))
      clear hbl
      go_wp2_with fail
      go_ret
      exact ⟨rfl, HB.out⟩
  · have r1 := Kp.mk (fun v (hw : Below w.heap.size w v) => C.len_out v (HI.out v hw) y0 y1 m0 m1 hc h0)
    have r2 := Kp.mk (fun v (hw : Below w.heap.size w v) => C.start_out v (HI.out v hw) y0 y1 m0 m1 hc h0)
    have r3 := Kp.mk (fun v (hw : Below w.heap.size w v) => C.end_out v (HI.out v hw) y0 y1 m0 m1 hc h0)
    have r4 := Kp.mk (fun w => refChk_is w hc)
    have r5 := Kp.mk (fun v (hw : Below w.heap.size w v) => C.check v (HI.out v hw) y0 y1 m0 m1 hc)
    have t1 : (c != 0) = true := by rw [bne_iff_ne]; exact h0
    clear C hc h0 y0 y1 m0 m1
    go_enter Tryd.func3, Tryd.ntmps3
    go_wp2_with fail
    refine (r1.out _ HB.out).mono ?_
    rintro e w' ⟨rfl, hbl⟩
    have HB := Kp.mk (HB.out.trans (hbl.mono HB.out.size))
    clear hbl
    go_wp2_with fail
    refine (r2.out _ HB.out).mono ?_
    rintro e w' ⟨rfl, hbl⟩
    have HB := Kp.mk (HB.out.trans (hbl.mono HB.out.size))
    clear hbl
    go_wp2_with fail
    refine (r3.out _ HB.out).mono ?_
    rintro e w' ⟨rfl, hbl⟩
    have HB := Kp.mk (HB.out.trans (hbl.mono HB.out.size))
    clear hbl
    go_wp2_with fail
    refine (r4.out _).mono ?_
    rintro e w' ⟨rfl, rfl⟩
    go_wp2_with fail
    refine (r5.out _ HB.out).mono ?_
    rintro e w' ⟨rfl, hbl⟩
    have HB := Kp.mk (HB.out.trans (hbl.mono HB.out.size))
    clear hbl
    go_wp2_with fail
    refine (rl.out _ HB.out).mono ?_
    rintro e w' ⟨rfl, hbl⟩
    have HB := Kp.mk (HB.out.trans (hbl.mono HB.out.size))
    clear hbl
    go_wp2_with fail
    go_ret
    exact ⟨rfl, HB.out⟩
set_option maxRecDepth 100000 in
set_option maxHeartbeats 4000000 in
theorem lawOf_any {I : World → Prop} (C : MonthFns I) (d : Int) (w : World) (hI : I w) (h0 : -9223372036854775808 ≤ d) (h1 : d ≤ 9223372036854775807) :
    Calls Tryd.prog 4 #[.int .i64 d] w fun e w' => e = .returned (.bool true) ∧ Below w.heap.size w w' := by
  have HB := Kp.mk (Below.refl w.heap.size w)
  have HI := Kp.mk (fun (v : World) (h : Below w.heap.size w v) => C.keep hI h)
  clear hI
  have rl := Kp.mk (fun v (hw : Below w.heap.size w v) => C.lives v (HI.out v hw))
  obtain ⟨y, hyd⟩ := year_exists d
  cases hy : isY y
  · have r1 := Kp.mk (fun v (hw : Below w.heap.size w v) => C.of_out v (HI.out v hw) h0 h1 hyd hy)
    have r2 := Kp.mk (fun w => refOf_is w h0 h1 hyd hy)
    clear C hy hyd h0 h1
    go_enter Tryd.func4, Tryd.ntmps4
    go_wp2_with fail
    refine (r1.out _ HB.out).mono ?_
    rintro e w' ⟨rfl, hbl⟩
    have HB := Kp.mk (HB.out.trans (hbl.mono HB.out.size))
    clear hbl
    go_wp2_with fail
    refine (r2.out _).mono ?_
    rintro e w' ⟨rfl, rfl⟩
    go_wp2_with fail
    refine (rl.out _ HB.out).mono ?_
    rintro e w' ⟨rfl, hbl⟩
    have HB := Kp.mk (HB.out.trans (hbl.mono HB.out.size))
    clear hbl
    go_wp2_with fail
    go_ret
    exact ⟨rfl, HB.out⟩
  · obtain ⟨m, hm⟩ := month_exists hyd
    have hyr := (isY_iff y).1 hy
    have hmm := And.intro hm.m0 hm.m1
    have hck : chkM y m = 0 := (chkM_iff y m).2 ⟨hy, hmm⟩
    obtain ⟨s, hs⟩ : ∃ s, Sm y m = s := ⟨_, rfl⟩
    obtain ⟨t, ht⟩ : ∃ t, Sm y (m + 1) - 1 = t := ⟨_, rfl⟩
    have hsd : s ≤ d := by rw [← hs]; exact hm.lo
    have hdt : d ≤ t := by have := hm.hi; omega
    have r1 := Kp.mk (fun v (hw : Below w.heap.size w v) => C.of_in v (HI.out v hw) h0 h1 hy hm)
    have r2 := Kp.mk (fun w => refOf_is w h0 h1 hyd hy)
    have r3 := Kp.mk (fun w => refMOf_is w hy hm)
    have r4 := Kp.mk (fun v (hw : Below w.heap.size w v) => C.start_in (y := y) (m := m) v (HI.out v hw) (by omega) (by omega) (by omega) (by omega) hck hs)
    have r5 := Kp.mk (fun v (hw : Below w.heap.size w v) => C.end_in (y := y) (m := m) v (HI.out v hw) (by omega) (by omega) (by omega) (by omega) hck ht)
    have n1 := Kp.mk (fun w => month_is y m w)
    clear C hy hyd h0 h1 hyr hs ht hm hmm hck
    go_enter Tryd.func4, Tryd.ntmps4
    go_wp2_with fail
    refine (r1.out _ HB.out).mono ?_
    rintro e w' ⟨rfl, hbl⟩
    have HB := Kp.mk (HB.out.trans (hbl.mono HB.out.size))
    clear hbl
    go_wp2_with fail
    refine (r2.out _).mono ?_
    rintro e w' ⟨rfl, rfl⟩
    go_wp2_with fail
    refine (r3.out _).mono ?_
    rintro e w' ⟨rfl, rfl⟩
    go_wp2_with fail
    refine (r4.out _ HB.out).mono ?_
    rintro e w' ⟨rfl, hbl⟩
    have HB := Kp.mk (HB.out.trans (hbl.mono HB.out.size))
    clear hbl
    go_wp2_with fail
    refine (r5.out _ HB.out).mono ?_
    rintro e w' ⟨rfl, hbl⟩
    have HB := Kp.mk (HB.out.trans (hbl.mono HB.out.size))
    clear hbl
    go_wp2_with fail
    refine (n1.out _).mono ?_
    rintro e w' ⟨rfl, rfl⟩
    go_wp2_with fail
    refine (rl.out _ HB.out).mono ?_
    rintro e w' ⟨rfl, hbl⟩
    have HB := Kp.mk (HB.out.trans (hbl.mono HB.out.size))
    clear hbl
    go_wp2_with fail
    go_ret
    exact ⟨rfl, HB.out⟩
set_option maxRecDepth 100000 in
set_option maxHeartbeats 8000000 in
theorem lawAdd_any {I : World → Prop} (C : MonthFns I) (y m k l : Int) (w : World) (hI : I w) (y0 : -9223372036854775808 ≤ y) (y1 : y ≤ 9223372036854775807) (m0 : -9223372036854775808 ≤ m) (m1 : m ≤ 9223372036854775807)
    (k0 : -9223372036854775808 ≤ k) (k1 : k ≤ 9223372036854775807) (l0 : -9223372036854775808 ≤ l) (l1 : l ≤ 9223372036854775807) :
    Calls Tryd.prog 5 #[.int .i64 y, .int .i64 m, .agg #[.int .i64 k, .int .i64 l]] w fun e w' => e = .returned (.bool true) ∧ Below w.heap.size w w' := by
  have HB := Kp.mk ((Below.refl w.heap.size w).alloc (Nat.le_refl _) (.cells #[.int .i64 k, .int .i64 l] 42))
  have HI := Kp.mk (fun (v : World) (h : Below w.heap.size w v) => C.keep hI h)
  clear hI
  have rl := Kp.mk (fun v (hw : Below w.heap.size w v) => C.lives v (HI.out v hw))
  have hcell0 : (w.alloc (.cells #[.int .i64 k, .int .i64 l] 42)).cell? ⟨w.heap.size, 0, none⟩ = some (.int .i64 k) := by rw [World.cell?_alloc_new]; rfl
  have hcell1 : (w.alloc (.cells #[.int .i64 k, .int .i64 l] 42)).cell? ⟨w.heap.size, 1, none⟩ = some (.int .i64 l) := by rw [World.cell?_alloc_new]; rfl
  obtain ⟨c, hc⟩ : ∃ c, chkM y m = c := ⟨_, rfl⟩
  have r2 := Kp.mk (fun w => refChk_is w hc)
  by_cases h0 : c = 0
  · subst h0
    have hym := (chkM_iff y m).1 hc
    have hyr := (isY_iff y).1 hym.1
    cases hb : isY (yrI (ixM y m + k))
    · have r1 := Kp.mk (fun v (hw : Below w.heap.size w v) => C.add_no v (HI.out v hw) y0 y1 m0 m1 k0 k1 hc hb)
      have r3 := Kp.mk (fun w => refMAdd_is w hym.1 hym.2.1 hym.2.2 k0 k1 hb)
      clear C hc hym hyr hb y0 y1 m0 m1 k0 k1 l0 l1
      go_enter Tryd.func5, Tryd.ntmps5
      go_upto_region 1 with fail
      generalize w.alloc (.cells #[.int .i64 k, .int .i64 l] 42) = w0 at *
      go_quiet (fail)
      generalize hwq : World.drewN w0 _ = wq
      have HB := Kp.mk (show Below w.heap.size w wq by rw [← hwq]; exact below_drewN HB.out _)
      clear hwq
      go_wp2_with fail
      refine (r1.out _ HB.out).mono ?_
      rintro e w' ⟨rfl, hbl⟩
      have HB := Kp.mk (HB.out.trans (hbl.mono HB.out.size))
      clear hbl
      go_wp2_with fail
      refine (r2.out _).mono ?_
      rintro e w' ⟨rfl, rfl⟩
      go_wp2_with fail
      refine (r3.out _).mono ?_
      rintro e w' ⟨rfl, rfl⟩
      go_wp2_with fail
      refine (rl.out _ HB.out).mono ?_
      rintro e w' ⟨rfl, hbl⟩
      have HB := Kp.mk (HB.out.trans (hbl.mono HB.out.size))
      clear hbl
      go_wp2_with fail
      go_ret
      exact ⟨rfl, HB.out⟩
    · obtain ⟨z, hz⟩ : ∃ z, yrI (ixM y m + k) = z := ⟨_, rfl⟩
      obtain ⟨n, hn⟩ : ∃ n, moI (ixM y m + k) = n := ⟨_, rfl⟩
      have r3 : Kp (∀ w, Calls Tryd.prog 23 #[.int .i64 y, .int .i64 m, .int .i64 k] w fun e w' => e = .returned (.tuple #[.int .i64 z, .int .i64 n, .bool true]) ∧ w = w') := Kp.mk (fun w => by
        have := refMAdd_is w hym.1 hym.2.1 hym.2.2 k0 k1 hb
        rw [hz, hn] at this
        exact this)
      rw [hz] at hb
      have hzr := (isY_iff z).1 hb
      have hnr := moI_in (ixM y m + k)
      rw [hn] at hnr
      have hck : chkM z n = 0 := (chkM_iff z n).2 ⟨hb, hnr⟩
      have hix : ixM z n = ixM y m + k := by rw [← hz, ← hn]; exact ix_of _
      have r1 := Kp.mk (fun v (hw : Below w.heap.size w v) => C.add_in v (HI.out v hw) y0 y1 m0 m1 k0 k1 hc hz hn hb)
      have r4 := Kp.mk (fun v (hw : Below w.heap.size w v) => C.between_in (y := y) (m := m) (z := z) (n := n) (v := k) v (HI.out v hw) y0 y1 m0 m1 (by omega) (by omega) (by omega) (by omega) hc hck (by omega))
      have n1 := Kp.mk (fun w => month_is z n w)
      have n2 := Kp.mk (fun w => num_is w (numB_self k))
      cases hb2 : isY (yrI (ixM z n + l))
      · have r5 := Kp.mk (fun v (hw : Below w.heap.size w v) => C.add_no (y := z) (m := n) v (HI.out v hw) (by omega) (by omega) (by omega) (by omega) l0 l1 hck hb2)
        clear C hc hym hyr hb y0 y1 m0 m1 k0 k1 l0 l1 hz hn hzr hnr hck hix hb2
        go_enter Tryd.func5, Tryd.ntmps5
        go_upto_region 1 with fail
        generalize w.alloc (.cells #[.int .i64 k, .int .i64 l] 42) = w0 at *
        go_quiet (fail)
        generalize hwq : World.drewN w0 _ = wq
        have HB := Kp.mk (show Below w.heap.size w wq by rw [← hwq]; exact below_drewN HB.out _)
        clear hwq
        go_wp2_with fail
        refine (r1.out _ HB.out).mono ?_
        rintro e w' ⟨rfl, hbl⟩
        have HB := Kp.mk (HB.out.trans (hbl.mono HB.out.size))
        clear hbl
        go_wp2_with fail
        refine (r2.out _).mono ?_
        rintro e w' ⟨rfl, rfl⟩
        go_wp2_with fail
        refine (r3.out _).mono ?_
        rintro e w' ⟨rfl, rfl⟩
        go_wp2_with fail
        refine (r4.out _ HB.out).mono ?_
        rintro e w' ⟨rfl, hbl⟩
        have HB := Kp.mk (HB.out.trans (hbl.mono HB.out.size))
        clear hbl
        go_wp2_with fail
        refine (n1.out _).mono ?_
        rintro e w' ⟨rfl, rfl⟩
        go_wp2_with fail
        refine (n2.out _).mono ?_
        rintro e w' ⟨rfl, rfl⟩
        go_wp2_with fail
        refine (r5.out _ HB.out).mono ?_
        rintro e w' ⟨rfl, hbl⟩
        have HB := Kp.mk (HB.out.trans (hbl.mono HB.out.size))
        clear hbl
        go_wp2_with fail
        refine (rl.out _ HB.out).mono ?_
        rintro e w' ⟨rfl, hbl⟩
        have HB := Kp.mk (HB.out.trans (hbl.mono HB.out.size))
        clear hbl
        go_wp2_with fail
        go_ret
        exact ⟨rfl, HB.out⟩
      · obtain ⟨a, ha⟩ : ∃ a, yrI (ixM z n + l) = a := ⟨_, rfl⟩
        obtain ⟨b, hbb⟩ : ∃ b, moI (ixM z n + l) = b := ⟨_, rfl⟩
        rw [ha] at hb2
        have r5 := Kp.mk (fun v (hw : Below w.heap.size w v) => C.add_in (y := z) (m := n) v (HI.out v hw) (by omega) (by omega) (by omega) (by omega) l0 l1 hck ha hbb hb2)
        have e1 : ixM y m + (k + l) = ixM z n + l := by omega
        have n3 := Kp.mk (fun w => month_is a b w)
        have hadd : -9223372036854775808 ≤ k + l → k + l ≤ 9223372036854775807 → IntKind.i64.wrap (k + l) = k + l ∧ Kp (∀ v, Below w.heap.size w v → Calls Tryd.prog 17 #[.int .i64 y, .int .i64 m, .int .i64 (k + l)] v fun e w' => e = .returned (.tuple #[.int .i64 a, .int .i64 b, .int .i64 0]) ∧ Below v.heap.size v w') := fun x0 x1 =>
          ⟨IntWalk.i64_in _ ⟨x0, x1⟩, Kp.mk (fun v (hw : Below w.heap.size w v) => C.add_in v (HI.out v hw) y0 y1 m0 m1 x0 x1 hc (by rw [e1]; exact ha) (by rw [e1]; exact hbb) hb2)⟩
        have HK := Kp.mk (And.intro k0 k1)
        by_cases hlp : 0 < l
        · have w1 : IntKind.i64.wrap (9223372036854775807 - l) = 9223372036854775807 - l := IntWalk.i64_in _ (by omega)
          by_cases hov : 9223372036854775807 - l < k
          · clear C hc hym hyr hb y0 y1 m0 m1 k0 k1 l0 l1 hz hn hzr hnr hck hix hb2 ha hbb e1 hadd HK
            go_enter Tryd.func5, Tryd.ntmps5
            go_upto_region 1 with fail
            generalize w.alloc (.cells #[.int .i64 k, .int .i64 l] 42) = w0 at *
            go_quiet (fail)
            generalize hwq : World.drewN w0 _ = wq
            have HB := Kp.mk (show Below w.heap.size w wq by rw [← hwq]; exact below_drewN HB.out _)
            clear hwq
            go_wp2_with fail
            refine (r1.out _ HB.out).mono ?_
            rintro e w' ⟨rfl, hbl⟩
            have HB := Kp.mk (HB.out.trans (hbl.mono HB.out.size))
            clear hbl
            go_wp2_with fail
            refine (r2.out _).mono ?_
            rintro e w' ⟨rfl, rfl⟩
            go_wp2_with fail
            refine (r3.out _).mono ?_
            rintro e w' ⟨rfl, rfl⟩
            go_wp2_with fail
            refine (r4.out _ HB.out).mono ?_
            rintro e w' ⟨rfl, hbl⟩
            have HB := Kp.mk (HB.out.trans (hbl.mono HB.out.size))
            clear hbl
            go_wp2_with fail
            refine (n1.out _).mono ?_
            rintro e w' ⟨rfl, rfl⟩
            go_wp2_with fail
            refine (n2.out _).mono ?_
            rintro e w' ⟨rfl, rfl⟩
            go_wp2_with fail
            refine (r5.out _ HB.out).mono ?_
            rintro e w' ⟨rfl, hbl⟩
            have HB := Kp.mk (HB.out.trans (hbl.mono HB.out.size))
            clear hbl
            go_wp2_with fail
            refine (rl.out _ HB.out).mono ?_
            rintro e w' ⟨rfl, hbl⟩
            have HB := Kp.mk (HB.out.trans (hbl.mono HB.out.size))
            clear hbl
            go_wp2_with fail
            go_ret
            exact ⟨rfl, HB.out⟩
          · obtain ⟨w2, r6⟩ := hadd (by omega) (by omega)
            have hln : ¬ l < 0 := by omega
            clear C hc hym hyr hb y0 y1 m0 m1 k0 k1 l0 l1 hz hn hzr hnr hck hix hb2 ha hbb e1 hadd HK
            go_enter Tryd.func5, Tryd.ntmps5
            go_upto_region 1 with fail
            generalize w.alloc (.cells #[.int .i64 k, .int .i64 l] 42) = w0 at *
            go_quiet (fail)
            generalize hwq : World.drewN w0 _ = wq
            have HB := Kp.mk (show Below w.heap.size w wq by rw [← hwq]; exact below_drewN HB.out _)
            clear hwq
            go_wp2_with fail
            refine (r1.out _ HB.out).mono ?_
            rintro e w' ⟨rfl, hbl⟩
            have HB := Kp.mk (HB.out.trans (hbl.mono HB.out.size))
            clear hbl
            go_wp2_with fail
            refine (r2.out _).mono ?_
            rintro e w' ⟨rfl, rfl⟩
            go_wp2_with fail
            refine (r3.out _).mono ?_
            rintro e w' ⟨rfl, rfl⟩
            go_wp2_with fail
            refine (r4.out _ HB.out).mono ?_
            rintro e w' ⟨rfl, hbl⟩
            have HB := Kp.mk (HB.out.trans (hbl.mono HB.out.size))
            clear hbl
            go_wp2_with fail
            refine (n1.out _).mono ?_
            rintro e w' ⟨rfl, rfl⟩
            go_wp2_with fail
            refine (n2.out _).mono ?_
            rintro e w' ⟨rfl, rfl⟩
            go_wp2_with fail
            refine (r5.out _ HB.out).mono ?_
            rintro e w' ⟨rfl, hbl⟩
            have HB := Kp.mk (HB.out.trans (hbl.mono HB.out.size))
            clear hbl
            go_wp2_with fail
            refine (r6.out _ HB.out).mono ?_
            rintro e w' ⟨rfl, hbl⟩
            have HB := Kp.mk (HB.out.trans (hbl.mono HB.out.size))
            clear hbl
            go_wp2_with fail
            refine (n3.out _).mono ?_
            rintro e w' ⟨rfl, rfl⟩
            go_wp2_with fail
            refine (rl.out _ HB.out).mono ?_
            rintro e w' ⟨rfl, hbl⟩
            have HB := Kp.mk (HB.out.trans (hbl.mono HB.out.size))
            clear hbl
            go_wp2_with fail
            go_ret
            exact ⟨rfl, HB.out⟩
        · by_cases hln : l < 0
          · have w1 : IntKind.i64.wrap (-9223372036854775808 - l) = -9223372036854775808 - l := IntWalk.i64_in _ (by omega)
            by_cases hov : k < -9223372036854775808 - l
            · clear C hc hym hyr hb y0 y1 m0 m1 k0 k1 l0 l1 hz hn hzr hnr hck hix hb2 ha hbb e1 hadd HK
              go_enter Tryd.func5, Tryd.ntmps5
              go_upto_region 1 with fail
              generalize w.alloc (.cells #[.int .i64 k, .int .i64 l] 42) = w0 at *
              go_quiet (fail)
              generalize hwq : World.drewN w0 _ = wq
              have HB := Kp.mk (show Below w.heap.size w wq by rw [← hwq]; exact below_drewN HB.out _)
              clear hwq
              go_wp2_with fail
              refine (r1.out _ HB.out).mono ?_
              rintro e w' ⟨rfl, hbl⟩
              have HB := Kp.mk (HB.out.trans (hbl.mono HB.out.size))
              clear hbl
              go_wp2_with fail
              refine (r2.out _).mono ?_
              rintro e w' ⟨rfl, rfl⟩
              go_wp2_with fail
              refine (r3.out _).mono ?_
              rintro e w' ⟨rfl, rfl⟩
              go_wp2_with fail
              refine (r4.out _ HB.out).mono ?_
              rintro e w' ⟨rfl, hbl⟩
              have HB := Kp.mk (HB.out.trans (hbl.mono HB.out.size))
              clear hbl
              go_wp2_with fail
              refine (n1.out _).mono ?_
              rintro e w' ⟨rfl, rfl⟩
              go_wp2_with fail
              refine (n2.out _).mono ?_
              rintro e w' ⟨rfl, rfl⟩
              go_wp2_with fail
              refine (r5.out _ HB.out).mono ?_
              rintro e w' ⟨rfl, hbl⟩
              have HB := Kp.mk (HB.out.trans (hbl.mono HB.out.size))
              clear hbl
              go_wp2_with fail
              refine (rl.out _ HB.out).mono ?_
              rintro e w' ⟨rfl, hbl⟩
              have HB := Kp.mk (HB.out.trans (hbl.mono HB.out.size))
              clear hbl
              go_wp2_with fail
              go_ret
              exact ⟨rfl, HB.out⟩
            · obtain ⟨w2, r6⟩ := hadd (by omega) (by omega)
              clear C hc hym hyr hb y0 y1 m0 m1 k0 k1 l0 l1 hz hn hzr hnr hck hix hb2 ha hbb e1 hadd HK
              go_enter Tryd.func5, Tryd.ntmps5
              go_upto_region 1 with fail
              generalize w.alloc (.cells #[.int .i64 k, .int .i64 l] 42) = w0 at *
              go_quiet (fail)
              generalize hwq : World.drewN w0 _ = wq
              have HB := Kp.mk (show Below w.heap.size w wq by rw [← hwq]; exact below_drewN HB.out _)
              clear hwq
              go_wp2_with fail
              refine (r1.out _ HB.out).mono ?_
              rintro e w' ⟨rfl, hbl⟩
              have HB := Kp.mk (HB.out.trans (hbl.mono HB.out.size))
              clear hbl
              go_wp2_with fail
              refine (r2.out _).mono ?_
              rintro e w' ⟨rfl, rfl⟩
              go_wp2_with fail
              refine (r3.out _).mono ?_
              rintro e w' ⟨rfl, rfl⟩
              go_wp2_with fail
              refine (r4.out _ HB.out).mono ?_
              rintro e w' ⟨rfl, hbl⟩
              have HB := Kp.mk (HB.out.trans (hbl.mono HB.out.size))
              clear hbl
              go_wp2_with fail
              refine (n1.out _).mono ?_
              rintro e w' ⟨rfl, rfl⟩
              go_wp2_with fail
              refine (n2.out _).mono ?_
              rintro e w' ⟨rfl, rfl⟩
              go_wp2_with fail
              refine (r5.out _ HB.out).mono ?_
              rintro e w' ⟨rfl, hbl⟩
              have HB := Kp.mk (HB.out.trans (hbl.mono HB.out.size))
              clear hbl
              go_wp2_with fail
              refine (r6.out _ HB.out).mono ?_
              rintro e w' ⟨rfl, hbl⟩
              have HB := Kp.mk (HB.out.trans (hbl.mono HB.out.size))
              clear hbl
              go_wp2_with fail
              refine (n3.out _).mono ?_
              rintro e w' ⟨rfl, rfl⟩
              go_wp2_with fail
              refine (rl.out _ HB.out).mono ?_
              rintro e w' ⟨rfl, hbl⟩
              have HB := Kp.mk (HB.out.trans (hbl.mono HB.out.size))
              clear hbl
              go_wp2_with fail
              go_ret
              exact ⟨rfl, HB.out⟩
          · obtain ⟨w2, r6⟩ := hadd (by omega) (by omega)
            clear C hc hym hyr hb y0 y1 m0 m1 k0 k1 l0 l1 hz hn hzr hnr hck hix hb2 ha hbb e1 hadd HK
            go_enter Tryd.func5, Tryd.ntmps5
            go_upto_region 1 with fail
            generalize w.alloc (.cells #[.int .i64 k, .int .i64 l] 42) = w0 at *
            go_quiet (fail)
            generalize hwq : World.drewN w0 _ = wq
            have HB := Kp.mk (show Below w.heap.size w wq by rw [← hwq]; exact below_drewN HB.out _)
            clear hwq
            go_wp2_with fail
            refine (r1.out _ HB.out).mono ?_
            rintro e w' ⟨rfl, hbl⟩
            have HB := Kp.mk (HB.out.trans (hbl.mono HB.out.size))
            clear hbl
            go_wp2_with fail
            refine (r2.out _).mono ?_
            rintro e w' ⟨rfl, rfl⟩
            go_wp2_with fail
            refine (r3.out _).mono ?_
            rintro e w' ⟨rfl, rfl⟩
            go_wp2_with fail
            refine (r4.out _ HB.out).mono ?_
            rintro e w' ⟨rfl, hbl⟩
            have HB := Kp.mk (HB.out.trans (hbl.mono HB.out.size))
            clear hbl
            go_wp2_with fail
            refine (n1.out _).mono ?_
            rintro e w' ⟨rfl, rfl⟩
            go_wp2_with fail
            refine (n2.out _).mono ?_
            rintro e w' ⟨rfl, rfl⟩
            go_wp2_with fail
            refine (r5.out _ HB.out).mono ?_
            rintro e w' ⟨rfl, hbl⟩
            have HB := Kp.mk (HB.out.trans (hbl.mono HB.out.size))
            clear hbl
            go_wp2_with fail
            refine (r6.out _ HB.out).mono ?_
            rintro e w' ⟨rfl, hbl⟩
            have HB := Kp.mk (HB.out.trans (hbl.mono HB.out.size))
            clear hbl
            go_wp2_with fail
            refine (n3.out _).mono ?_
            rintro e w' ⟨rfl, rfl⟩
            go_wp2_with fail
            refine (rl.out _ HB.out).mono ?_
            rintro e w' ⟨rfl, hbl⟩
            have HB := Kp.mk (HB.out.trans (hbl.mono HB.out.size))
            clear hbl
            go_wp2_with fail
            go_ret
            exact ⟨rfl, HB.out⟩
  · have r1 := Kp.mk (fun v (hw : Below w.heap.size w v) => C.add_out v (HI.out v hw) y0 y1 m0 m1 k0 k1 hc h0)
    have t1 : (c != 0) = true := by rw [bne_iff_ne]; exact h0
    clear C hc h0 y0 y1 m0 m1 k0 k1 l0 l1
    go_enter Tryd.func5, Tryd.ntmps5
    go_upto_region 1 with fail
    generalize w.alloc (.cells #[.int .i64 k, .int .i64 l] 42) = w0 at *
    go_quiet (fail)
    generalize hwq : World.drewN w0 _ = wq
    have HB := Kp.mk (show Below w.heap.size w wq by rw [← hwq]; exact below_drewN HB.out _)
    clear hwq
    go_wp2_with fail
    refine (r1.out _ HB.out).mono ?_
    rintro e w' ⟨rfl, hbl⟩
    have HB := Kp.mk (HB.out.trans (hbl.mono HB.out.size))
    clear hbl
    go_wp2_with fail
    refine (r2.out _).mono ?_
    rintro e w' ⟨rfl, rfl⟩
    go_wp2_with fail
    refine (rl.out _ HB.out).mono ?_
    rintro e w' ⟨rfl, hbl⟩
    have HB := Kp.mk (HB.out.trans (hbl.mono HB.out.size))
    clear hbl
    go_wp2_with fail
    go_ret
    exact ⟨rfl, HB.out⟩
end Go.Proofs.YtnjhbecmdgjeaaaDoor
