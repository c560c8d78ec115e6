/-
  DERIVED. CONTRACTS of package civils: Check, Day, Of, Weekday, Ordinal, FromOrdinal, Compare. Written by mkcvdev.py.
-/
import Derived.Test.YtoafigehcgledaaGreatDoorPCo
import Derived.Test.YtoafigehcgledaaGreatDoorPMo
import Derived.Test.YtoafigehcgledaaGreatDoorPYr
namespace Go.Proofs.YtoafigehcgledaaGreatDoor
open Go.RowKit
set_option maxRecDepth 100000

/-- two results, the first a struct in a block -/
theorem results_cell_tmp {P : Program} {fn : Func} {p u : Tmp} {ty : TypeId} (h : fn.results = #[.cell p ty, .tmp u]) (tmps : Array Value) (w : World) (g : Nat) (t : TypeId) (cs : Array Value) (fr : Nat × Nat) (d : TypeDesc)
    (hp : tmps.getD p undef = .pointer (some ⟨g, 0, none⟩)) (hg : w.heap[g]? = some (.cells cs t fr))
    (hu : P.underlying ty = some d) (hd : (match d with | .struct _ | .array _ _ => true | _ => false) = true) (hi : (P.info? ty).map (·.size) = some cs.size) :
    (results fn tmps).run P w = .ok (.tuple #[.agg cs, tmps.getD u undef]) w := by
  have hp' : tmps[p]?.getD undef = .pointer (some ⟨g, 0, none⟩) := by simpa using hp
  simp [results, h, hp', asAddr, run_loadVar_row w g t ty cs fr d hg hu hd hi]
/-- a civil day's block -/
structure CvRow (w : World) (g : Nat) (y m d : Int) (W : World) : Prop where
  below : Below w.heap.size w W
  heap : W.heap[g]? = some (.cells #[.int .i64 y, .int .i64 m, .int .i64 d] 23 (0, 0))
theorem CvRow.step {w W W' : World} {g : Nat} {y m d : Int} (h : CvRow w g y m d W) (hb : Below W.heap.size W W') : CvRow w g y m d W' :=
  ⟨h.below.trans (hb.mono h.below.size), by rw [hb.block g (Array.getElem?_eq_some_iff.1 h.heap).1]; exact h.heap⟩
theorem three_one (y m d : Int) : (#[Value.int .i64 y, .int .i64 m, .int .i64 d] : Array Value).all (·.oneCell') = true := by simp [Value.oneCell']
theorem cvrow_new (w : World) : CvRow w w.heap.size 0 0 0 (w.alloc (.cells #[.int .i64 0, .int .i64 0, .int .i64 0] 23)) :=
  ⟨(Below.refl w.heap.size w).alloc (Nat.le_refl _) _, heap_alloc_new _ _⟩
set_option maxHeartbeats 1000000 in
theorem dChk {y m d c : Int} (hc : chkC y m d = c) (w : World) (hL : LaidMo w) :
    Calls Tryz.prog 13 #[.agg #[.int .i64 y, .int .i64 m, .int .i64 d]] w fun e w' => e = .returned (.int .i64 c) ∧ Below w.heap.size w w' := by
  have HA := Kp.mk (cv_new y m d 23 (Below.refl w.heap.size w))
  have HB := Kp.mk HA.out.bl
  unfold chkC at hc
  by_cases h0 : chkM y m = 0
  · rw [if_pos h0] at hc
    obtain ⟨l, hl⟩ : ∃ l, lenM y m = l := ⟨_, rfl⟩
    have r1 := Kp.mk (fun W (hb : Below w.heap.size w W) => pLen_in h0 hl W (hL.below hb))
    rw [hl] at hc
    clear h0 hl hL
    by_cases h1 : d < 1
    · obtain rfl : 8 = c := by rw [← hc, if_neg (by omega)]
      clear hc
      go_enter Tryz.func13, Tryz.ntmps13
      go_upto_region 1 with fail
      generalize (w.alloc (.cells #[.int .i64 y, .int .i64 m, .int .i64 d] 23)) = w0 at *
      have kHA0 := HA.out.c0
      have kHA1 := HA.out.c1
      have kHA2 := HA.out.c2
      go_wp2_with fail
      refine (r1.out _ HB.out.below).mono ?_
      rintro e u1 ⟨rfl, hbl⟩
      clear kHA0 kHA1 kHA2
      have HB := Kp.mk (HB.out.step hbl)
      have HA := Kp.mk (HA.out.step hbl)
      clear hbl
      have kHA0 := HA.out.c0
      have kHA1 := HA.out.c1
      have kHA2 := HA.out.c2
      go_wp2_with fail
      go_ret
      exact ⟨rfl, HB.out.below⟩
    · by_cases h2 : l < d
      · obtain rfl : 8 = c := by rw [← hc, if_neg (by omega)]
        clear hc
        go_enter Tryz.func13, Tryz.ntmps13
        go_upto_region 1 with fail
        generalize (w.alloc (.cells #[.int .i64 y, .int .i64 m, .int .i64 d] 23)) = w0 at *
        have kHA0 := HA.out.c0
        have kHA1 := HA.out.c1
        have kHA2 := HA.out.c2
        go_wp2_with fail
        refine (r1.out _ HB.out.below).mono ?_
        rintro e u1 ⟨rfl, hbl⟩
        clear kHA0 kHA1 kHA2
        have HB := Kp.mk (HB.out.step hbl)
        have HA := Kp.mk (HA.out.step hbl)
        clear hbl
        have kHA0 := HA.out.c0
        have kHA1 := HA.out.c1
        have kHA2 := HA.out.c2
        go_wp2_with fail
        go_ret
        exact ⟨rfl, HB.out.below⟩
      · obtain rfl : 0 = c := by rw [← hc, if_pos (by omega)]
        clear hc
        go_enter Tryz.func13, Tryz.ntmps13
        go_upto_region 1 with fail
        generalize (w.alloc (.cells #[.int .i64 y, .int .i64 m, .int .i64 d] 23)) = w0 at *
        have kHA0 := HA.out.c0
        have kHA1 := HA.out.c1
        have kHA2 := HA.out.c2
        go_wp2_with fail
        refine (r1.out _ HB.out.below).mono ?_
        rintro e u1 ⟨rfl, hbl⟩
        clear kHA0 kHA1 kHA2
        have HB := Kp.mk (HB.out.step hbl)
        have HA := Kp.mk (HA.out.step hbl)
        clear hbl
        have kHA0 := HA.out.c0
        have kHA1 := HA.out.c1
        have kHA2 := HA.out.c2
        go_wp2_with fail
        go_ret
        exact ⟨rfl, HB.out.below⟩
  · rw [if_neg h0] at hc
    have h2 : ¬ c = 0 := by rw [← hc]; exact h0
    have t : (c != 0) = true := by rw [bne_iff_ne]; exact h2
    have r1 := Kp.mk (fun W => pLen_out hc h2 W)
    clear h0 hc h2 hL
    go_enter Tryz.func13, Tryz.ntmps13
    go_upto_region 1 with fail
    generalize (w.alloc (.cells #[.int .i64 y, .int .i64 m, .int .i64 d] 23)) = w0 at *
    have kHA0 := HA.out.c0
    have kHA1 := HA.out.c1
    have kHA2 := HA.out.c2
    go_wp2_with fail
    refine (r1.out _).mono ?_
    rintro e w' ⟨rfl, rfl⟩
    go_wp2_with fail
    go_ret
    exact ⟨rfl, HB.out.below⟩
set_option maxHeartbeats 1000000 in
theorem dDay_in {y m d v : Int} (h : Right y m d) (hv : Dc y m d = v) (w : World) (hL : LaidMo w) :
    Calls Tryz.prog 11 #[.agg #[.int .i64 y, .int .i64 m, .int .i64 d]] w fun e w' => e = .returned (.tuple #[.int .i64 v, .int .i64 0]) ∧ Below w.heap.size w w' := by
  have HA := Kp.mk (cv_new y m d 23 (Below.refl w.heap.size w))
  have HB := Kp.mk HA.out.bl
  have hk := (chkC_iff y m d).2 h
  obtain ⟨s, hs⟩ : ∃ s, Sm y m = s := ⟨_, rfl⟩
  have hin := Sm_in (y := y) h.m0 (show m ≤ 13 by have := h.m1; omega)
  have hsi := Sd_in h.yr
  have hll := lenM_in y m
  have hd0 := h.d0
  have hd1 := h.d1
  have r1 := Kp.mk (fun W (hb : Below w.heap.size w W) => dChk hk W (hL.below hb))
  have r2 := Kp.mk (fun W (hb : Below w.heap.size w W) => pStart_in h.chkM hs W (hL.below hb))
  unfold Dc at hv
  rw [hs] at hv hin
  have w1 : IntKind.i64.wrap (s + d) = s + d := IntWalk.i64_in _ (by omega)
  have w2 : IntKind.i64.wrap (s + d - 1) = v := by rw [show s + d - 1 = v by omega]; exact IntWalk.i64_in _ (by omega)
  clear hv hs hin hsi hll hd0 hd1 h hk hL
  go_enter Tryz.func11, Tryz.ntmps11
  go_upto_region 1 with fail
  generalize (w.alloc (.cells #[.int .i64 y, .int .i64 m, .int .i64 d] 23)) = w0 at *
  have kHA0 := HA.out.c0
  have kHA1 := HA.out.c1
  have kHA2 := HA.out.c2
  go_wp2_with fail
  refine (r1.out _ HB.out.below).mono ?_
  rintro e u1 ⟨rfl, hbl⟩
  clear kHA0 kHA1 kHA2
  have HB := Kp.mk (HB.out.step hbl)
  have HA := Kp.mk (HA.out.step hbl)
  clear hbl
  have kHA0 := HA.out.c0
  have kHA1 := HA.out.c1
  have kHA2 := HA.out.c2
  go_wp2_with fail
  refine (r2.out _ HB.out.below).mono ?_
  rintro e u2 ⟨rfl, hbl⟩
  clear kHA0 kHA1 kHA2
  have HB := Kp.mk (HB.out.step hbl)
  have HA := Kp.mk (HA.out.step hbl)
  clear hbl
  have kHA0 := HA.out.c0
  have kHA1 := HA.out.c1
  have kHA2 := HA.out.c2
  go_wp2_with fail
  go_ret2
  exact ⟨rfl, HB.out.below⟩
set_option maxHeartbeats 1000000 in
theorem dDay_out {y m d c : Int} (hc : chkC y m d = c) (h0 : ¬ c = 0) (w : World) (hL : LaidMo w) :
    Calls Tryz.prog 11 #[.agg #[.int .i64 y, .int .i64 m, .int .i64 d]] w fun e w' => e = .returned (.tuple #[.int .i64 0, .int .i64 c]) ∧ Below w.heap.size w w' := by
  have HA := Kp.mk (cv_new y m d 23 (Below.refl w.heap.size w))
  have HB := Kp.mk HA.out.bl
  have r1 := Kp.mk (fun W (hb : Below w.heap.size w W) => dChk hc W (hL.below hb))
  have t : (c != 0) = true := by rw [bne_iff_ne]; exact h0
  clear hc h0 hL
  go_enter Tryz.func11, Tryz.ntmps11
  go_upto_region 1 with fail
  generalize (w.alloc (.cells #[.int .i64 y, .int .i64 m, .int .i64 d] 23)) = w0 at *
  have kHA0 := HA.out.c0
  have kHA1 := HA.out.c1
  have kHA2 := HA.out.c2
  go_wp2_with fail
  refine (r1.out _ HB.out.below).mono ?_
  rintro e u1 ⟨rfl, hbl⟩
  clear kHA0 kHA1 kHA2
  have HB := Kp.mk (HB.out.step hbl)
  have HA := Kp.mk (HA.out.step hbl)
  clear hbl
  have kHA0 := HA.out.c0
  have kHA1 := HA.out.c1
  have kHA2 := HA.out.c2
  go_wp2_with fail
  go_ret2
  exact ⟨rfl, HB.out.below⟩
set_option maxHeartbeats 1000000 in
theorem dOf_in {n y m d : Int} (h : Right y m d) (hn : Dc y m d = n) (w : World) (hL : LaidMo w) :
    Calls Tryz.prog 16 #[.int .i64 n] w fun e w' => e = .returned (.tuple #[.agg #[.int .i64 y, .int .i64 m, .int .i64 d], .int .i64 0]) ∧ Below w.heap.size w w' := by
  have HR := Kp.mk (cvrow_new w)
  have hm := h.has
  rw [hn] at hm
  obtain ⟨s, hs⟩ : ∃ s, Sm y m = s := ⟨_, rfl⟩
  have hin := Sm_in (y := y) h.m0 (show m ≤ 13 by have := h.m1; omega)
  have hsi := Sd_in h.yr
  have hll := lenM_in y m
  have hd0 := h.d0
  have hd1 := h.d1
  unfold Dc at hn
  rw [hs] at hn hin
  have r1 := Kp.mk (fun W (hb : Below w.heap.size w W) => pOf_in (by omega) (by omega) h.yr hm W (hL.below hb))
  have r2 := Kp.mk (fun W (hb : Below w.heap.size w W) => pStart_in h.chkM hs W (hL.below hb))
  have w1 : IntKind.i64.wrap (n - s) = n - s := IntWalk.i64_in _ (by omega)
  have w2 : IntKind.i64.wrap (n - s + 1) = d := by rw [show n - s + 1 = d by omega]; exact IntWalk.i64_in _ (by omega)
  clear hm hs hin hsi hll hd0 hd1 hn h hL
  go_enter Tryz.func16, Tryz.ntmps16
  go_upto_region 1 with fail
  generalize w.alloc (.cells #[.int .i64 0, .int .i64 0, .int .i64 0] 23) = w0 at *
  go_wp2_with fail
  refine (r1.out _ HR.out.below).mono ?_
  rintro e w1 ⟨rfl, hbl⟩
  have HR := Kp.mk (HR.out.step hbl)
  clear hbl
  go_wp2_with fail
  refine (r2.out _ HR.out.below).mono ?_
  rintro e w2 ⟨rfl, hbl⟩
  have HR := Kp.mk (HR.out.step hbl)
  clear hbl
  go_wp2_with (first
    | refine wpList_store_row' rfl 23 (.tmp 2) (.tmp 31) rfl w.heap.size #[.int .i64 y, .int .i64 m, .int .i64 d] rfl rfl 23 #[.int .i64 0, .int .i64 0, .int .i64 0] HR.out.heap infoCv rfl (three_one _ _ _) ?_)
  refine bodyPost_ret (results_cell_tmp (p := 2) (ty := 23) rfl _ _ w.heap.size 23 #[.int .i64 y, .int .i64 m, .int .i64 d] (0, 0) _ rfl (setRow_heap _ _ _ _ _ _ HR.out.heap) Tryz.underlying23 rfl infoCv) rfl ?_
  exact ⟨rfl, below_setRow HR.out.below (Nat.le_refl _) _⟩
set_option maxHeartbeats 1000000 in
theorem dOf_out {n y : Int} (h0 : -9223372036854775808 ≤ n) (h1 : n ≤ 9223372036854775807) (hn : YearHas y n) (hy : isY y = false) (w : World) (hL : LaidMo w) :
    Calls Tryz.prog 16 #[.int .i64 n] w fun e w' => e = .returned (.tuple #[.agg #[.int .i64 0, .int .i64 0, .int .i64 0], .int .i64 6]) ∧ Below w.heap.size w w' := by
  have HR := Kp.mk (cvrow_new w)
  have r1 := Kp.mk (fun W (hb : Below w.heap.size w W) => pOf_out h0 h1 hn hy W (hL.below hb))
  clear h0 h1 hn hy hL
  go_enter Tryz.func16, Tryz.ntmps16
  go_upto_region 1 with fail
  generalize w.alloc (.cells #[.int .i64 0, .int .i64 0, .int .i64 0] 23) = w0 at *
  go_wp2_with fail
  refine (r1.out _ HR.out.below).mono ?_
  rintro e w1 ⟨rfl, hbl⟩
  have HR := Kp.mk (HR.out.step hbl)
  clear hbl
  go_wp2_with (first
    | refine wpList_store_row' rfl 23 (.tmp 2) (.tmp 17) rfl w.heap.size #[.int .i64 0, .int .i64 0, .int .i64 0] rfl rfl 23 #[.int .i64 0, .int .i64 0, .int .i64 0] HR.out.heap infoCv rfl (three_one _ _ _) ?_)
  refine bodyPost_ret (results_cell_tmp (p := 2) (ty := 23) rfl _ _ w.heap.size 23 #[.int .i64 0, .int .i64 0, .int .i64 0] (0, 0) _ rfl (setRow_heap _ _ _ _ _ _ HR.out.heap) Tryz.underlying23 rfl infoCv) rfl ?_
  exact ⟨rfl, below_setRow HR.out.below (Nat.le_refl _) _⟩
set_option maxHeartbeats 1000000 in
theorem dWday {n v : Int} (h0 : -9223372036854775808 ≤ n) (h1 : n ≤ 9223372036854775807) (hv : wday n = v) (w : World) :
    Calls Tryz.prog 20 #[.int .i64 n] w fun e w' => e = .returned (.int .i64 v) ∧ w = w' := by
  obtain ⟨r, hr⟩ : ∃ r, n % 7 = r := ⟨_, rfl⟩
  have r1 := Kp.mk (fun W => mod_is (k := 7) h0 h1 (by omega) (by omega) hr W)
  have w1 : IntKind.i64.wrap (r + 5) = r + 5 := IntWalk.i64_in _ (by omega)
  have e1 : Int.tmod (r + 5) 7 = v := by rw [tmod_of (by decide)]; unfold wday at hv; split <;> omega
  have w2 : IntKind.i64.wrap v = v := IntWalk.i64_in _ (by unfold wday at hv; omega)
  clear hv hr h0 h1
  go_enter Tryz.func20, Tryz.ntmps20
  go_wp2_with fail
  refine (r1.out _).mono ?_
  rintro e w' ⟨rfl, rfl⟩
  go_wp2_with fail
  go_ret
  exact ⟨rfl, rfl⟩
set_option maxHeartbeats 1000000 in
theorem dOrd_in {y m d v : Int} (h : Right y m d) (hv : ordC y m d = v) (w : World) (hL : LaidMo w) :
    Calls Tryz.prog 12 #[.agg #[.int .i64 y, .int .i64 m, .int .i64 d]] w fun e w' => e = .returned (.tuple #[.int .i64 v, .int .i64 0]) ∧ Below w.heap.size w w' := by
  have HA := Kp.mk (cv_new y m d 23 (Below.refl w.heap.size w))
  have HB := Kp.mk HA.out.bl
  obtain ⟨n, hn⟩ : ∃ n, Dc y m d = n := ⟨_, rfl⟩
  obtain ⟨s, hs⟩ : ∃ s, Sd y = s := ⟨_, rfl⟩
  have hoi := ord_in h
  have hsi := Sd_in h.yr
  have htwo := lenI_two y
  have r1 := Kp.mk (fun W (hb : Below w.heap.size w W) => dDay_in h hn W (hL.below hb))
  have r2 := Kp.mk (fun W (hb : Below w.heap.size w W) => start_pub h.yr hs W (hL.below hb).yr)
  rw [hv] at hoi
  unfold ordC at hv
  rw [hs] at hsi hv
  rw [hn] at hv
  have w1 : IntKind.i64.wrap (n - s) = n - s := IntWalk.i64_in _ (by omega)
  have w2 : IntKind.i64.wrap (n - s + 1) = v := by rw [hv]; exact IntWalk.i64_in _ (by omega)
  clear hn hs hoi hsi htwo hv h hL
  go_enter Tryz.func12, Tryz.ntmps12
  go_upto_region 1 with fail
  generalize (w.alloc (.cells #[.int .i64 y, .int .i64 m, .int .i64 d] 23)) = w0 at *
  have kHA0 := HA.out.c0
  have kHA1 := HA.out.c1
  have kHA2 := HA.out.c2
  go_wp2_with fail
  refine (r1.out _ HB.out.below).mono ?_
  rintro e u1 ⟨rfl, hbl⟩
  clear kHA0 kHA1 kHA2
  have HB := Kp.mk (HB.out.step hbl)
  have HA := Kp.mk (HA.out.step hbl)
  clear hbl
  have kHA0 := HA.out.c0
  have kHA1 := HA.out.c1
  have kHA2 := HA.out.c2
  go_wp2_with fail
  refine (r2.out _ HB.out.below).mono ?_
  rintro e u2 ⟨rfl, hbl⟩
  clear kHA0 kHA1 kHA2
  have HB := Kp.mk (HB.out.step hbl)
  have HA := Kp.mk (HA.out.step hbl)
  clear hbl
  have kHA0 := HA.out.c0
  have kHA1 := HA.out.c1
  have kHA2 := HA.out.c2
  go_wp2_with fail
  go_ret2
  exact ⟨rfl, HB.out.below⟩
set_option maxHeartbeats 1000000 in
theorem dOrd_out {y m d c : Int} (hc : chkC y m d = c) (h0 : ¬ c = 0) (w : World) (hL : LaidMo w) :
    Calls Tryz.prog 12 #[.agg #[.int .i64 y, .int .i64 m, .int .i64 d]] w fun e w' => e = .returned (.tuple #[.int .i64 0, .int .i64 c]) ∧ Below w.heap.size w w' := by
  have HA := Kp.mk (cv_new y m d 23 (Below.refl w.heap.size w))
  have HB := Kp.mk HA.out.bl
  have r1 := Kp.mk (fun W (hb : Below w.heap.size w W) => dDay_out hc h0 W (hL.below hb))
  have t : (c != 0) = true := by rw [bne_iff_ne]; exact h0
  clear hc h0 hL
  go_enter Tryz.func12, Tryz.ntmps12
  go_upto_region 1 with fail
  generalize (w.alloc (.cells #[.int .i64 y, .int .i64 m, .int .i64 d] 23)) = w0 at *
  have kHA0 := HA.out.c0
  have kHA1 := HA.out.c1
  have kHA2 := HA.out.c2
  go_wp2_with fail
  refine (r1.out _ HB.out.below).mono ?_
  rintro e u1 ⟨rfl, hbl⟩
  clear kHA0 kHA1 kHA2
  have HB := Kp.mk (HB.out.step hbl)
  have HA := Kp.mk (HA.out.step hbl)
  clear hbl
  have kHA0 := HA.out.c0
  have kHA1 := HA.out.c1
  have kHA2 := HA.out.c2
  go_wp2_with fail
  go_ret2
  exact ⟨rfl, HB.out.below⟩
set_option maxHeartbeats 1000000 in
theorem dFrom_in {y m d n : Int} (h : Right y m d) (hn : ordC y m d = n) (w : World) (hL : LaidMo w) :
    Calls Tryz.prog 17 #[.int .i64 y, .int .i64 n] w fun e w' => e = .returned (.tuple #[.agg #[.int .i64 y, .int .i64 m, .int .i64 d], .int .i64 0]) ∧ Below w.heap.size w w' := by
  have HR := Kp.mk (cvrow_new w)
  obtain ⟨v, hv⟩ : ∃ v, Dc y m d = v := ⟨_, rfl⟩
  obtain ⟨s, hs⟩ : ∃ s, Sd y = s := ⟨_, rfl⟩
  obtain ⟨l, hl⟩ : ∃ l, lenI y = l := ⟨_, rfl⟩
  have hoi := ord_in h
  have hsi := Sd_in h.yr
  have htwo := lenI_two y
  have r1 := Kp.mk (fun W (hb : Below w.heap.size w W) => len_pub h.yr hl W (hL.below hb).yr)
  have r2 := Kp.mk (fun W (hb : Below w.heap.size w W) => start_pub h.yr hs W (hL.below hb).yr)
  have r3 := Kp.mk (fun W (hb : Below w.heap.size w W) => dOf_in h hv W (hL.below hb))
  rw [hn, hl] at hoi
  rw [hl] at htwo
  unfold ordC at hn
  rw [hs] at hsi hn
  rw [hv] at hn
  have t1 : ¬ n < 1 := by omega
  have t2 : ¬ l < n := by omega
  have w1 : IntKind.i64.wrap (s + n) = s + n := IntWalk.i64_in _ (by omega)
  have w2 : IntKind.i64.wrap (s + n - 1) = v := by rw [show s + n - 1 = v by omega]; exact IntWalk.i64_in _ (by omega)
  clear hv hs hl hoi hsi htwo hn h hL
  go_enter Tryz.func17, Tryz.ntmps17
  go_upto_region 1 with fail
  generalize w.alloc (.cells #[.int .i64 0, .int .i64 0, .int .i64 0] 23) = w0 at *
  go_wp2_with fail
  refine (r1.out _ HR.out.below).mono ?_
  rintro e w1 ⟨rfl, hbl⟩
  have HR := Kp.mk (HR.out.step hbl)
  clear hbl
  go_wp2_with fail
  refine (r2.out _ HR.out.below).mono ?_
  rintro e w2 ⟨rfl, hbl⟩
  have HR := Kp.mk (HR.out.step hbl)
  clear hbl
  go_wp2_with fail
  refine (r3.out _ HR.out.below).mono ?_
  rintro e w3 ⟨rfl, hbl⟩
  have HR := Kp.mk (HR.out.step hbl)
  clear hbl
  go_wp2_with (first
    | refine wpList_store_row' rfl 23 (.tmp 4) (.tmp 37) rfl w.heap.size #[.int .i64 y, .int .i64 m, .int .i64 d] rfl rfl 23 #[.int .i64 0, .int .i64 0, .int .i64 0] HR.out.heap infoCv rfl (three_one _ _ _) ?_)
  refine bodyPost_ret (results_cell_tmp (p := 4) (ty := 23) rfl _ _ w.heap.size 23 #[.int .i64 y, .int .i64 m, .int .i64 d] (0, 0) _ rfl (setRow_heap _ _ _ _ _ _ HR.out.heap) Tryz.underlying23 rfl infoCv) rfl ?_
  exact ⟨rfl, below_setRow HR.out.below (Nat.le_refl _) _⟩
set_option maxHeartbeats 1000000 in
theorem dFrom_year {y n : Int} (hy : isY y = false) (w : World) :
    Calls Tryz.prog 17 #[.int .i64 y, .int .i64 n] w fun e w' => e = .returned (.tuple #[.agg #[.int .i64 0, .int .i64 0, .int .i64 0], .int .i64 6]) ∧ Below w.heap.size w w' := by
  have HR := Kp.mk (cvrow_new w)
  have r1 := Kp.mk (fun W => len_out hy W)
  clear hy
  go_enter Tryz.func17, Tryz.ntmps17
  go_upto_region 1 with fail
  generalize w.alloc (.cells #[.int .i64 0, .int .i64 0, .int .i64 0] 23) = w0 at *
  go_wp2_with fail
  refine (r1.out _).mono ?_
  rintro e w' ⟨rfl, rfl⟩
  go_wp2_with (first
    | refine wpList_store_row' rfl 23 (.tmp 4) (.tmp 17) rfl w.heap.size #[.int .i64 0, .int .i64 0, .int .i64 0] rfl rfl 23 #[.int .i64 0, .int .i64 0, .int .i64 0] HR.out.heap infoCv rfl (three_one _ _ _) ?_)
  refine bodyPost_ret (results_cell_tmp (p := 4) (ty := 23) rfl _ _ w.heap.size 23 #[.int .i64 0, .int .i64 0, .int .i64 0] (0, 0) _ rfl (setRow_heap _ _ _ _ _ _ HR.out.heap) Tryz.underlying23 rfl infoCv) rfl ?_
  exact ⟨rfl, below_setRow HR.out.below (Nat.le_refl _) _⟩
set_option maxHeartbeats 1000000 in
theorem dFrom_out {y n : Int} (hy : isY y = true) (hn : ¬ (1 ≤ n ∧ n ≤ lenI y)) (w : World) (hL : LaidMo w) :
    Calls Tryz.prog 17 #[.int .i64 y, .int .i64 n] w fun e w' => e = .returned (.tuple #[.agg #[.int .i64 0, .int .i64 0, .int .i64 0], .int .i64 4]) ∧ Below w.heap.size w w' := by
  have HR := Kp.mk (cvrow_new w)
  obtain ⟨l, hl⟩ : ∃ l, lenI y = l := ⟨_, rfl⟩
  have r1 := Kp.mk (fun W (hb : Below w.heap.size w W) => len_pub hy hl W (hL.below hb).yr)
  rw [hl] at hn
  clear hy hl hL
  by_cases h1 : n < 1
  · clear hn
    go_enter Tryz.func17, Tryz.ntmps17
    go_upto_region 1 with fail
    generalize w.alloc (.cells #[.int .i64 0, .int .i64 0, .int .i64 0] 23) = w0 at *
    go_wp2_with fail
    refine (r1.out _ HR.out.below).mono ?_
    rintro e w1 ⟨rfl, hbl⟩
    have HR := Kp.mk (HR.out.step hbl)
    clear hbl
    go_wp2_with (first
      | refine wpList_store_row' rfl 23 (.tmp 4) (.tmp 26) rfl w.heap.size #[.int .i64 0, .int .i64 0, .int .i64 0] rfl rfl 23 #[.int .i64 0, .int .i64 0, .int .i64 0] HR.out.heap infoCv rfl (three_one _ _ _) ?_)
    refine bodyPost_ret (results_cell_tmp (p := 4) (ty := 23) rfl _ _ w.heap.size 23 #[.int .i64 0, .int .i64 0, .int .i64 0] (0, 0) _ rfl (setRow_heap _ _ _ _ _ _ HR.out.heap) Tryz.underlying23 rfl infoCv) rfl ?_
    exact ⟨rfl, below_setRow HR.out.below (Nat.le_refl _) _⟩
  · have h2 : l < n := by omega
    clear hn
    go_enter Tryz.func17, Tryz.ntmps17
    go_upto_region 1 with fail
    generalize w.alloc (.cells #[.int .i64 0, .int .i64 0, .int .i64 0] 23) = w0 at *
    go_wp2_with fail
    refine (r1.out _ HR.out.below).mono ?_
    rintro e w1 ⟨rfl, hbl⟩
    have HR := Kp.mk (HR.out.step hbl)
    clear hbl
    go_wp2_with (first
      | refine wpList_store_row' rfl 23 (.tmp 4) (.tmp 26) rfl w.heap.size #[.int .i64 0, .int .i64 0, .int .i64 0] rfl rfl 23 #[.int .i64 0, .int .i64 0, .int .i64 0] HR.out.heap infoCv rfl (three_one _ _ _) ?_)
    refine bodyPost_ret (results_cell_tmp (p := 4) (ty := 23) rfl _ _ w.heap.size 23 #[.int .i64 0, .int .i64 0, .int .i64 0] (0, 0) _ rfl (setRow_heap _ _ _ _ _ _ HR.out.heap) Tryz.underlying23 rfl infoCv) rfl ?_
    exact ⟨rfl, below_setRow HR.out.below (Nat.le_refl _) _⟩
end Go.Proofs.YtoafigehcgledaaGreatDoor
