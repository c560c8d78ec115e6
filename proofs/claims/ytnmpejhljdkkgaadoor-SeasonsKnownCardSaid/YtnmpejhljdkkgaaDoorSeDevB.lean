/-
  DERIVED. CONTRACTS of package seasons: Run, Of. Written by mkse6.py.
-/
import Derived.Test.YtnmpejhljdkkgaaDoorSeDev
namespace Go.Proofs.YtnmpejhljdkkgaaDoor
open Go.RowKit
set_option maxRecDepth 100000

theorem add_yr {y f n : Int} (h1 : 1 ≤ f + n - 1) (h2 : f + n - 1 ≤ 24) : yrI (ixM y f + (n - 1)) = zY y (f + n - 1) ∧ moI (ixM y f + (n - 1)) = zM (f + n - 1) := by
  unfold yrI moI ixM zY zM
  split <;> constructor <;> omega
set_option maxHeartbeats 2000000 in
theorem srun_is {y c e : Int} {r : Value} (c0 : -9223372036854775808 ≤ c) (c1 : c ≤ 9223372036854775807) (he : runE y c = e) (hr : runR y c = r) (w : World) (hL : LaidSe w) :
    Calls Tryd.prog 10 #[.int .i64 y, .int .i64 c] w fun x w' => x = .returned (.tuple #[r, .int .i64 e]) ∧ Below w.heap.size w w' := by
  have HR := Kp.mk (runrow_new w)
  have HL := Kp.mk hL
  obtain ⟨f, hf⟩ : ∃ f, fromI c = f := ⟨_, rfl⟩
  obtain ⟨n, hn⟩ : ∃ n, manyI c = n := ⟨_, rfl⟩
  by_cases h0 : manyI c = 0
  · have hk : chkS c = 7 := by unfold chkS; rw [if_pos h0]
    have r1 := Kp.mk (fun w (h : LaidSe w) => smonths_is c0 c1 hf hn hk w h)
    unfold runE at he
    rw [if_pos h0] at he
    unfold runR runE at hr
    rw [if_pos h0, if_neg (by decide)] at hr
    subst hr he
    clear c0 c1 hf hn h0 hk hL
    go_enter Tryd.func10, Tryd.ntmps10
    go_upto_region 1 with fail
    generalize w.alloc (.cells #[.int .i8 0, .int .i64 0, .int .i8 0, .int .i64 0] 32) = w0 at *
    go_wp2_with fail
    refine (r1.out _ (HL.out.below HR.out.below)).mono ?_
    rintro e w' ⟨rfl, hbl⟩
    have HR := Kp.mk (HR.out.step hbl)
    clear hbl
    go_wp2_with (first
      | refine wpList_store_row' rfl 32 (.tmp 4) (.tmp 23) rfl w.heap.size #[.int .i8 0, .int .i64 0, .int .i8 0, .int .i64 0] rfl rfl 32 #[.int .i8 0, .int .i64 0, .int .i8 0, .int .i64 0] HR.out.heap infoRun rfl (four_one _ _) ?_)
    refine bodyPost_ret (results_cell_tmp (p := 4) (ty := 32) rfl _ _ w.heap.size 32 #[.int .i8 0, .int .i64 0, .int .i8 0, .int .i64 0] (0, 0) _ rfl (setRow_heap _ _ _ _ _ _ HR.out.heap) Tryd.underlying32 rfl infoRun) rfl ?_
    exact ⟨rfl, below_setRow HR.out.below (Nat.le_refl _) _⟩
  · have hk : chkS c = 0 := by unfold chkS; rw [if_neg h0]
    have r1 := Kp.mk (fun w (h : LaidSe w) => smonths_is c0 c1 hf hn hk w h)
    obtain ⟨a1, a2, a3, a4, a5⟩ := from_in h0
    unfold runE at he
    rw [if_neg h0] at he
    have hr2 := hr
    unfold runR runE at hr2
    rw [if_neg h0] at hr2
    have hlo : loR y c = Sm y f := by unfold loR; rw [hf]
    have hhi : hiR y c = Sm (zY y (f + n - 1)) (zM (f + n - 1) + 1) - 1 := by unfold hiR; rw [hf, hn]
    rw [hf, hn] at he hr2 a5
    rw [hf] at a1 a2
    rw [hn] at a3 a4
    obtain ⟨k, hkk⟩ : ∃ k, n - 1 = k := ⟨_, rfl⟩
    have w1 : IntKind.i64.wrap (n - 1) = k := by rw [hkk]; exact IntWalk.i64_in _ (by omega)
    obtain ⟨q1, q2⟩ := add_yr (y := y) (f := f) (n := n) (by omega) (by omega)
    rw [hkk] at q1 q2
    cases hy : isY y
    · rw [hy, if_pos rfl] at he
      rw [hy, if_pos rfl, if_neg (by decide)] at hr2
      subst hr2 he
      have hc : chkM y f = 6 := by unfold chkM; rw [hy]; rfl
      have r2 := Kp.mk (fun w => pAdd_out (k := k) hc (by decide) w)
      clear c0 c1 hf hn h0 hk hL hlo hhi a1 a2 a3 a4 a5 q1 q2 hy hc hkk hr
      go_enter Tryd.func10, Tryd.ntmps10
      go_upto_region 1 with fail
      generalize w.alloc (.cells #[.int .i8 0, .int .i64 0, .int .i8 0, .int .i64 0] 32) = w0 at *
      go_wp2_with fail
      refine (r1.out _ (HL.out.below HR.out.below)).mono ?_
      rintro e w' ⟨rfl, hbl⟩
      have HR := Kp.mk (HR.out.step hbl)
      clear hbl
      go_wp2_with fail
      refine (r2.out _).mono ?_
      rintro e w' ⟨rfl, rfl⟩
      go_wp2_with (first
        | refine wpList_store_row' rfl 32 (.tmp 4) (.tmp 36) rfl w.heap.size #[.int .i8 0, .int .i64 0, .int .i8 0, .int .i64 0] rfl rfl 32 #[.int .i8 0, .int .i64 0, .int .i8 0, .int .i64 0] HR.out.heap infoRun rfl (four_one _ _) ?_)
      refine bodyPost_ret (results_cell_tmp (p := 4) (ty := 32) rfl _ _ w.heap.size 32 #[.int .i8 0, .int .i64 0, .int .i8 0, .int .i64 0] (0, 0) _ rfl (setRow_heap _ _ _ _ _ _ HR.out.heap) Tryd.underlying32 rfl infoRun) rfl ?_
      exact ⟨rfl, below_setRow HR.out.below (Nat.le_refl _) _⟩
    · have hc : chkM y f = 0 := (chkM_iff y f).2 ⟨hy, a1, a2⟩
      rw [hy, if_neg (by decide)] at he
      rw [hy, if_neg (by decide : ¬ true = false)] at hr2
      cases hz : isY (zY y (f + n - 1))
      · rw [hz, if_pos rfl] at he
        rw [hz, if_pos rfl, if_neg (by decide)] at hr2
        subst hr2 he
        have r2 := Kp.mk (fun w => pAdd_no (k := k) hc (by omega) (by omega) (by rw [q1]; exact hz) w)
        clear c0 c1 hf hn h0 hk hL hlo hhi a1 a2 a3 a4 a5 q1 q2 hy hc hkk hz hr
        go_enter Tryd.func10, Tryd.ntmps10
        go_upto_region 1 with fail
        generalize w.alloc (.cells #[.int .i8 0, .int .i64 0, .int .i8 0, .int .i64 0] 32) = w0 at *
        go_wp2_with fail
        refine (r1.out _ (HL.out.below HR.out.below)).mono ?_
        rintro e w' ⟨rfl, hbl⟩
        have HR := Kp.mk (HR.out.step hbl)
        clear hbl
        go_wp2_with fail
        refine (r2.out _).mono ?_
        rintro e w' ⟨rfl, hbl⟩
        have HR := Kp.mk (HR.out.step hbl)
        clear hbl
        go_wp2_with (first
          | refine wpList_store_row' rfl 32 (.tmp 4) (.tmp 36) rfl w.heap.size #[.int .i8 0, .int .i64 0, .int .i8 0, .int .i64 0] rfl rfl 32 #[.int .i8 0, .int .i64 0, .int .i8 0, .int .i64 0] HR.out.heap infoRun rfl (four_one _ _) ?_)
        refine bodyPost_ret (results_cell_tmp (p := 4) (ty := 32) rfl _ _ w.heap.size 32 #[.int .i8 0, .int .i64 0, .int .i8 0, .int .i64 0] (0, 0) _ rfl (setRow_heap _ _ _ _ _ _ HR.out.heap) Tryd.underlying32 rfl infoRun) rfl ?_
        exact ⟨rfl, below_setRow HR.out.below (Nat.le_refl _) _⟩
      · rw [hz, if_neg (by decide)] at he
        rw [hz, if_neg (by decide : ¬ true = false), if_pos rfl, hlo, hhi] at hr2
        subst hr2 he
        obtain ⟨lo, hl⟩ : ∃ lo, Sm y f = lo := ⟨_, rfl⟩
        obtain ⟨hi, hh⟩ : ∃ hi, Sm (zY y (f + n - 1)) (zM (f + n - 1) + 1) - 1 = hi := ⟨_, rfl⟩
        rw [hl, hh]
        have r2 := Kp.mk (fun w => pAdd_in (k := k) hc (by omega) (by omega) q1 q2 hz w)
        have hcz : chkM (zY y (f + n - 1)) (zM (f + n - 1)) = 0 := (chkM_iff _ _).2 ⟨hz, by unfold zM; split <;> omega⟩
        have r3 := Kp.mk (fun w (h : LaidSe w) => pStart_in hc hl w h.mo)
        have r4 := Kp.mk (fun w (h : LaidSe w) => pEnd_in hcz hh w h.mo)
        generalize zY y (f + n - 1) = z at *
        generalize zM (f + n - 1) = u at *
        clear c0 c1 hf hn h0 hk hL hlo hhi a1 a2 a3 a4 a5 q1 q2 hy hc hkk hz hcz hl hh hr
        go_enter Tryd.func10, Tryd.ntmps10
        go_upto_region 1 with fail
        generalize w.alloc (.cells #[.int .i8 0, .int .i64 0, .int .i8 0, .int .i64 0] 32) = w0 at *
        go_wp2_with fail
        refine (r1.out _ (HL.out.below HR.out.below)).mono ?_
        rintro e w' ⟨rfl, hbl⟩
        have HR := Kp.mk (HR.out.step hbl)
        clear hbl
        go_wp2_with fail
        refine (r2.out _).mono ?_
        rintro e w' ⟨rfl, hbl⟩
        have HR := Kp.mk (HR.out.step hbl)
        clear hbl
        go_wp2_with fail
        refine (r3.out _ (HL.out.below HR.out.below)).mono ?_
        rintro e w' ⟨rfl, hbl⟩
        have HR := Kp.mk (HR.out.step hbl)
        clear hbl
        go_wp2_with fail
        refine (r4.out _ (HL.out.below HR.out.below)).mono ?_
        rintro e w' ⟨rfl, hbl⟩
        have HR := Kp.mk (HR.out.step hbl)
        clear hbl
        go_wp2_with (first
          | refine wpList_store_row' rfl 32 (.tmp 4) (.tmp 54) rfl w.heap.size #[.int .i8 0, .int .i64 lo, .int .i8 0, .int .i64 hi] rfl rfl 32 #[.int .i8 0, .int .i64 0, .int .i8 0, .int .i64 0] HR.out.heap infoRun rfl (four_one _ _) ?_)
        refine bodyPost_ret (results_cell_tmp (p := 4) (ty := 32) rfl _ _ w.heap.size 32 #[.int .i8 0, .int .i64 lo, .int .i8 0, .int .i64 hi] (0, 0) _ rfl (setRow_heap _ _ _ _ _ _ HR.out.heap) Tryd.underlying32 rfl infoRun) rfl ?_
        exact ⟨rfl, below_setRow HR.out.below (Nat.le_refl _) _⟩

theorem RunIs.lo {z c lo hi e : Int} (h : RunIs z c lo hi e) (h0 : e = 0) : lo = loR z c ∧ hi = hiR z c := by
  have hv := h.val
  unfold runR at hv
  rw [h.err, if_pos h0] at hv
  simp at hv
  exact ⟨hv.1.symm, hv.2.symm⟩
/-- a day ahead of the code's first month: the run of the year before -/
theorem of_back {y m d c lo hi e : Int} (hm : MonthHas y m d) (h0 : ¬ manyI c = 0) (g : m < fromI c) (hR : RunIs (y - 1) c lo hi e) :
    ofB y c d = decide (e = 0 ∧ d ≤ hi) ∧ ofY y c d = if e = 0 ∧ d ≤ hi then y - 1 else 0 := by
  obtain ⟨a1, a2, a3, a4, a5⟩ := from_in h0
  have m0 := hm.m0
  have m1 := hm.m1
  have ha : hasR y c d = false := by
    rw [Bool.eq_false_iff]
    intro h
    have h1 := ((hasR_iff _ _ _).1 h).2.1
    have h2 := hm.hi
    have h3 := Sm_le (y := y) (show 1 ≤ m + 1 by omega) (show m + 1 ≤ fromI c by omega) (by omega)
    unfold loR at h1
    omega
  have hb : hasR (y - 1) c d = decide (e = 0 ∧ d ≤ hi) := by
    rw [hR.has]
    by_cases e0 : e = 0
    · have h1 := (hR.lo e0).1
      have h2 := Sm_le (y := y - 1) (m := fromI c) (n := 13) (by omega) (by omega) (by omega)
      rw [Sm_end, show y - 1 + 1 = y by omega] at h2
      have h3 := Sm_in (y := y) (m := m) (by omega) (by omega)
      have h4 := hm.lo
      unfold loR at h1
      simp [e0]
      omega
    · simp [e0]
  constructor
  · unfold ofB; rw [ha, hb]; simp
  · unfold ofY; rw [ha, hb]; simp
/-- a day that is not ahead of it: the run of its own year -/
theorem of_here {y m d c lo hi e : Int} (hm : MonthHas y m d) (h0 : ¬ manyI c = 0) (g : ¬ m < fromI c) (hR : RunIs y c lo hi e) :
    ofB y c d = decide (e = 0 ∧ d ≤ hi) ∧ ofY y c d = if e = 0 ∧ d ≤ hi then y else 0 := by
  obtain ⟨a1, a2, a3, a4, a5⟩ := from_in h0
  have m0 := hm.m0
  have m1 := hm.m1
  have h4 := hm.lo
  have ha : hasR (y - 1) c d = false := by
    rw [Bool.eq_false_iff]
    intro h
    have h1 := ((hasR_iff _ _ _).1 h).2.2
    unfold hiR at h1
    rcases a5 with a5 | ⟨a5, a6⟩
    · rw [zY_le (by omega), zM_le (by omega)] at h1
      have h2 := Sm_le (y := y - 1) (m := fromI c + manyI c - 1 + 1) (n := 13) (by omega) (by omega) (by omega)
      rw [Sm_end, show y - 1 + 1 = y by omega] at h2
      have h3 := Sm_in (y := y) (m := m) (by omega) (by omega)
      omega
    · rw [zY_gt (by omega), zM_gt (by omega), a5, a6, show y - 1 + 1 = y by omega] at h1
      have h3 := Sm_le (y := y) (m := 12 + 3 - 1 - 12 + 1) (n := m) (by omega) (by omega) (by omega)
      omega
  have hb : hasR y c d = decide (e = 0 ∧ d ≤ hi) := by
    rw [hR.has]
    by_cases e0 : e = 0
    · have h1 := (hR.lo e0).1
      have h2 := Sm_le (y := y) (m := fromI c) (n := m) (by omega) (by omega) (by omega)
      unfold loR at h1
      simp [e0]
      omega
    · simp [e0]
  constructor
  · unfold ofB; rw [ha, hb]; simp
  · unfold ofY; rw [ha, hb]; simp
theorem sof_code {d c : Int} (c0 : -9223372036854775808 ≤ c) (c1 : c ≤ 9223372036854775807) (h0 : manyI c = 0) (w : World) (hL : LaidSe w) :
    Calls Tryd.prog 14 #[.int .i64 d, .int .i64 c] w fun x w' => x = .returned (.tuple #[.int .i64 0, .bool false, .int .i64 7]) ∧ Below w.heap.size w w' := by
  have HB := Kp.mk (Below.refl w.heap.size w)
  have HL := Kp.mk hL
  have hk : chkS c = 7 := by unfold chkS; rw [if_pos h0]
  have r1 := Kp.mk (fun w (h : LaidSe w) => smonths_is c0 c1 (from_zero h0) h0 hk w h)
  clear c0 c1 h0 hk hL
  go_enter Tryd.func14, Tryd.ntmps14
  go_wp2_with fail
  refine (r1.out _ (HL.out.below HB.out)).mono ?_
  rintro e w' ⟨rfl, hbl⟩
  have HB := Kp.mk (HB.out.trans (hbl.mono HB.out.size))
  clear hbl
  go_wp2_with fail
  go_ret3
  exact ⟨rfl, HB.out⟩
theorem sof_out {y d c : Int} (d0 : -9223372036854775808 ≤ d) (d1 : d ≤ 9223372036854775807) (c0 : -9223372036854775808 ≤ c) (c1 : c ≤ 9223372036854775807) (h0 : ¬ manyI c = 0) (hd : YearHas y d) (hy : isY y = false) (w : World) (hL : LaidSe w) :
    Calls Tryd.prog 14 #[.int .i64 d, .int .i64 c] w fun x w' => x = .returned (.tuple #[.int .i64 0, .bool false, .int .i64 6]) ∧ Below w.heap.size w w' := by
  have HB := Kp.mk (Below.refl w.heap.size w)
  have HL := Kp.mk hL
  obtain ⟨f, hf⟩ : ∃ f, fromI c = f := ⟨_, rfl⟩
  obtain ⟨n, hn⟩ : ∃ n, manyI c = n := ⟨_, rfl⟩
  have hk : chkS c = 0 := by unfold chkS; rw [if_neg h0]
  have r1 := Kp.mk (fun w (h : LaidSe w) => smonths_is c0 c1 hf hn hk w h)
  have r2 := Kp.mk (fun w (h : LaidSe w) => pOf_out d0 d1 hd hy w h.mo)
  clear c0 c1 d0 d1 h0 hd hy hk hf hn hL
  go_enter Tryd.func14, Tryd.ntmps14
  go_wp2_with fail
  refine (r1.out _ (HL.out.below HB.out)).mono ?_
  rintro e w' ⟨rfl, hbl⟩
  have HB := Kp.mk (HB.out.trans (hbl.mono HB.out.size))
  clear hbl
  go_wp2_with fail
  refine (r2.out _ (HL.out.below HB.out)).mono ?_
  rintro e w' ⟨rfl, hbl⟩
  have HB := Kp.mk (HB.out.trans (hbl.mono HB.out.size))
  clear hbl
  go_wp2_with fail
  go_ret3
  exact ⟨rfl, HB.out⟩
set_option maxHeartbeats 4000000 in
theorem sof_in {y d c z : Int} {b : Bool} (d0 : -9223372036854775808 ≤ d) (d1 : d ≤ 9223372036854775807) (c0 : -9223372036854775808 ≤ c) (c1 : c ≤ 9223372036854775807) (h0 : ¬ manyI c = 0) (hd : YearHas y d) (hy : isY y = true) (hz : ofY y c d = z) (hb : ofB y c d = b) (w : World) (hL : LaidSe w) :
    Calls Tryd.prog 14 #[.int .i64 d, .int .i64 c] w fun x w' => x = .returned (.tuple #[.int .i64 z, .bool b, .int .i64 0]) ∧ Below w.heap.size w w' := by
  have HB := Kp.mk (Below.refl w.heap.size w)
  have HL := Kp.mk hL
  obtain ⟨m, hm⟩ := month_exists hd
  obtain ⟨f, hf⟩ : ∃ f, fromI c = f := ⟨_, rfl⟩
  obtain ⟨n, hn⟩ : ∃ n, manyI c = n := ⟨_, rfl⟩
  have hk : chkS c = 0 := by unfold chkS; rw [if_neg h0]
  have r1 := Kp.mk (fun w (h : LaidSe w) => smonths_is c0 c1 hf hn hk w h)
  have r2 := Kp.mk (fun w (h : LaidSe w) => pOf_in d0 d1 hy hm w h.mo)
  have hyr := (isY_iff y).1 hy
  have w1 : IntKind.i64.wrap (y - 1) = y - 1 := IntWalk.i64_in _ (by omega)
  by_cases g : m < fromI c
  · obtain ⟨lo, hi, e, hR⟩ := run_is (y - 1) c
    obtain ⟨e1, e2⟩ := of_back hm h0 g hR
    have r3 := Kp.mk (fun w (h : LaidSe w) => srun_is c0 c1 hR.err hR.val w h)
    rw [hf] at g
    rw [e1] at hb
    rw [e2] at hz
    by_cases e0 : e = 0
    · subst e0
      by_cases hlt : hi < d
      · obtain rfl : false = b := by rw [← hb]; simp; omega
        obtain rfl : 0 = z := by rw [← hz, if_neg (by omega)]
        clear c0 c1 d0 d1 h0 hd hy hk hf hn hL hm hyr e1 e2 hz hb hR
        go_enter Tryd.func14, Tryd.ntmps14
        go_wp2_with fail
        refine (r1.out _ (HL.out.below HB.out)).mono ?_
        rintro e w' ⟨rfl, hbl⟩
        have HB := Kp.mk (HB.out.trans (hbl.mono HB.out.size))
        clear hbl
        go_wp2_with fail
        refine (r2.out _ (HL.out.below HB.out)).mono ?_
        rintro e w' ⟨rfl, hbl⟩
        have HB := Kp.mk (HB.out.trans (hbl.mono HB.out.size))
        clear hbl
        go_wp2_with fail
        refine (r3.out _ (HL.out.below HB.out)).mono ?_
        rintro e w' ⟨rfl, hbl⟩
        have HB := Kp.mk (HB.out.trans (hbl.mono HB.out.size))
        clear hbl
        have HB := Kp.mk (HB.out.alloc HB.out.size (.cells #[.int .i8 0, .int .i64 lo, .int .i8 0, .int .i64 hi] 32))
        go_wp2_with fail
        go_ret3
        exact ⟨rfl, HB.out⟩
      · obtain rfl : true = b := by rw [← hb]; simp; omega
        obtain rfl : y - 1 = z := by rw [← hz, if_pos (by omega)]
        clear c0 c1 d0 d1 h0 hd hy hk hf hn hL hm hyr e1 e2 hz hb hR
        go_enter Tryd.func14, Tryd.ntmps14
        go_wp2_with fail
        refine (r1.out _ (HL.out.below HB.out)).mono ?_
        rintro e w' ⟨rfl, hbl⟩
        have HB := Kp.mk (HB.out.trans (hbl.mono HB.out.size))
        clear hbl
        go_wp2_with fail
        refine (r2.out _ (HL.out.below HB.out)).mono ?_
        rintro e w' ⟨rfl, hbl⟩
        have HB := Kp.mk (HB.out.trans (hbl.mono HB.out.size))
        clear hbl
        go_wp2_with fail
        refine (r3.out _ (HL.out.below HB.out)).mono ?_
        rintro e w' ⟨rfl, hbl⟩
        have HB := Kp.mk (HB.out.trans (hbl.mono HB.out.size))
        clear hbl
        have HB := Kp.mk (HB.out.alloc HB.out.size (.cells #[.int .i8 0, .int .i64 lo, .int .i8 0, .int .i64 hi] 32))
        go_wp2_with fail
        go_ret3
        exact ⟨rfl, HB.out⟩
    · obtain rfl : false = b := by rw [← hb]; simp [e0]
      obtain rfl : 0 = z := by rw [← hz, if_neg (fun h => e0 h.1)]
      have t1 : (e != 0) = true := by rw [bne_iff_ne]; exact e0
      clear c0 c1 d0 d1 h0 hd hy hk hf hn hL hm hyr e1 e2 hz hb hR e0
      go_enter Tryd.func14, Tryd.ntmps14
      go_wp2_with fail
      refine (r1.out _ (HL.out.below HB.out)).mono ?_
      rintro e w' ⟨rfl, hbl⟩
      have HB := Kp.mk (HB.out.trans (hbl.mono HB.out.size))
      clear hbl
      go_wp2_with fail
      refine (r2.out _ (HL.out.below HB.out)).mono ?_
      rintro e w' ⟨rfl, hbl⟩
      have HB := Kp.mk (HB.out.trans (hbl.mono HB.out.size))
      clear hbl
      go_wp2_with fail
      refine (r3.out _ (HL.out.below HB.out)).mono ?_
      rintro e w' ⟨rfl, hbl⟩
      have HB := Kp.mk (HB.out.trans (hbl.mono HB.out.size))
      clear hbl
      have HB := Kp.mk (HB.out.alloc HB.out.size (.cells #[.int .i8 0, .int .i64 lo, .int .i8 0, .int .i64 hi] 32))
      go_wp2_with fail
      go_ret3
      exact ⟨rfl, HB.out⟩
  · obtain ⟨lo, hi, e, hR⟩ := run_is y c
    obtain ⟨e1, e2⟩ := of_here hm h0 g hR
    have r3 := Kp.mk (fun w (h : LaidSe w) => srun_is c0 c1 hR.err hR.val w h)
    rw [hf] at g
    rw [e1] at hb
    rw [e2] at hz
    by_cases e0 : e = 0
    · subst e0
      by_cases hlt : hi < d
      · obtain rfl : false = b := by rw [← hb]; simp; omega
        obtain rfl : 0 = z := by rw [← hz, if_neg (by omega)]
        clear c0 c1 d0 d1 h0 hd hy hk hf hn hL hm hyr e1 e2 hz hb hR
        go_enter Tryd.func14, Tryd.ntmps14
        go_wp2_with fail
        refine (r1.out _ (HL.out.below HB.out)).mono ?_
        rintro e w' ⟨rfl, hbl⟩
        have HB := Kp.mk (HB.out.trans (hbl.mono HB.out.size))
        clear hbl
        go_wp2_with fail
        refine (r2.out _ (HL.out.below HB.out)).mono ?_
        rintro e w' ⟨rfl, hbl⟩
        have HB := Kp.mk (HB.out.trans (hbl.mono HB.out.size))
        clear hbl
        go_wp2_with fail
        refine (r3.out _ (HL.out.below HB.out)).mono ?_
        rintro e w' ⟨rfl, hbl⟩
        have HB := Kp.mk (HB.out.trans (hbl.mono HB.out.size))
        clear hbl
        have HB := Kp.mk (HB.out.alloc HB.out.size (.cells #[.int .i8 0, .int .i64 lo, .int .i8 0, .int .i64 hi] 32))
        go_wp2_with fail
        go_ret3
        exact ⟨rfl, HB.out⟩
      · obtain rfl : true = b := by rw [← hb]; simp; omega
        obtain rfl : y = z := by rw [← hz, if_pos (by omega)]
        clear c0 c1 d0 d1 h0 hd hy hk hf hn hL hm hyr e1 e2 hz hb hR
        go_enter Tryd.func14, Tryd.ntmps14
        go_wp2_with fail
        refine (r1.out _ (HL.out.below HB.out)).mono ?_
        rintro e w' ⟨rfl, hbl⟩
        have HB := Kp.mk (HB.out.trans (hbl.mono HB.out.size))
        clear hbl
        go_wp2_with fail
        refine (r2.out _ (HL.out.below HB.out)).mono ?_
        rintro e w' ⟨rfl, hbl⟩
        have HB := Kp.mk (HB.out.trans (hbl.mono HB.out.size))
        clear hbl
        go_wp2_with fail
        refine (r3.out _ (HL.out.below HB.out)).mono ?_
        rintro e w' ⟨rfl, hbl⟩
        have HB := Kp.mk (HB.out.trans (hbl.mono HB.out.size))
        clear hbl
        have HB := Kp.mk (HB.out.alloc HB.out.size (.cells #[.int .i8 0, .int .i64 lo, .int .i8 0, .int .i64 hi] 32))
        go_wp2_with fail
        go_ret3
        exact ⟨rfl, HB.out⟩
    · obtain rfl : false = b := by rw [← hb]; simp [e0]
      obtain rfl : 0 = z := by rw [← hz, if_neg (fun h => e0 h.1)]
      have t1 : (e != 0) = true := by rw [bne_iff_ne]; exact e0
      clear c0 c1 d0 d1 h0 hd hy hk hf hn hL hm hyr e1 e2 hz hb hR e0
      go_enter Tryd.func14, Tryd.ntmps14
      go_wp2_with fail
      refine (r1.out _ (HL.out.below HB.out)).mono ?_
      rintro e w' ⟨rfl, hbl⟩
      have HB := Kp.mk (HB.out.trans (hbl.mono HB.out.size))
      clear hbl
      go_wp2_with fail
      refine (r2.out _ (HL.out.below HB.out)).mono ?_
      rintro e w' ⟨rfl, hbl⟩
      have HB := Kp.mk (HB.out.trans (hbl.mono HB.out.size))
      clear hbl
      go_wp2_with fail
      refine (r3.out _ (HL.out.below HB.out)).mono ?_
      rintro e w' ⟨rfl, hbl⟩
      have HB := Kp.mk (HB.out.trans (hbl.mono HB.out.size))
      clear hbl
      have HB := Kp.mk (HB.out.alloc HB.out.size (.cells #[.int .i8 0, .int .i64 lo, .int .i8 0, .int .i64 hi] 32))
      go_wp2_with fail
      go_ret3
      exact ⟨rfl, HB.out⟩
end Go.Proofs.YtnmpejhljdkkgaaDoor
