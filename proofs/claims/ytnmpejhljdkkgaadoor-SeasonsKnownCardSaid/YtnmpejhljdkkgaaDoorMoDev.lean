/-
  DERIVED. CONTRACTS of package months: Check, the lengths and the first days of the months of a year.
-/
import Derived.Test.YtnmpejhljdkkgaaDoorRowN
import Derived.Test.YtnmpejhljdkkgaaDoorBelows
import Derived.Test.YtnmpejhljdkkgaaDoorYrPubA
import Derived.Test.YtnmpejhljdkkgaaDoorMoMath
namespace Go.Proofs.YtnmpejhljdkkgaaDoor
open Go.RowKit
set_option maxRecDepth 100000

/-- the lengths of the months of a year, the first days of its months -/
def cmF (k : Nat) : Int := mlen 365 ((k : Int) + 1)
def lnF (y : Int) (k : Nat) : Int := lenM y ((k : Int) + 1)
def stF (y : Int) (m k : Nat) : Int := if k ≤ m then Sm y ((k : Int) + 1) else 0
/-- the tables as every world of a call has them -/
structure LaidMo (w : World) : Prop where
  yr : Laid w
  common : ∃ t fr, w.heap[1]? = some (.cells (cln 12 cmF) t fr)
theorem LaidMo.below {w w' : World} (h : LaidMo w) (hb : Below w.heap.size w w') : LaidMo w' := by
  obtain ⟨t, fr, hc⟩ := h.common
  exact ⟨h.yr.below hb, t, fr, by rw [hb.block _ (Array.getElem?_eq_some_iff.1 hc).1]; exact hc⟩
theorem lnF_com {y : Int} (k : Nat) (hk : k < 12) : (if k = 1 then (if leapB y then 29 else 28) else cmF k) = lnF y k := by
  unfold lnF lenM cmF
  have h : k = 0 ∨ k = 1 ∨ k = 2 ∨ k = 3 ∨ k = 4 ∨ k = 5 ∨ k = 6 ∨ k = 7 ∨ k = 8 ∨ k = 9 ∨ k = 10 ∨ k = 11 := by omega
  unfold lenI
  cases leapB y <;> (rcases h with rfl | rfl | rfl | rfl | rfl | rfl | rfl | rfl | rfl | rfl | rfl | rfl) <;> decide
theorem info12 : (Tryd.prog.info? 74).map (·.size) = some 12 := by kernel_rfl
theorem info13 : (Tryd.prog.info? 68).map (·.size) = some 13 := by kernel_rfl
theorem info_int : (Tryd.prog.info? 3).map (·.size) = some 1 := by kernel_rfl
theorem info_i64 : (Tryd.prog.info? 2).map (·.size) = some 1 := by kernel_rfl

theorem mcheck_is {y m c : Int} (hc : chkM y m = c) (w : World) : Calls Tryd.prog 31 #[.int .i64 y, .int .i64 m] w fun e w' => e = .returned (.int .i64 c) ∧ w = w' := by
  cases hy : isY y
  · have r1 := Kp.mk (fun w => check_out hy w)
    obtain rfl : (6 : Int) = c := by rw [← hc]; unfold chkM; rw [hy]; rfl
    clear hc hy
    go_enter Tryd.func31, Tryd.ntmps31
    go_wp2_with fail
    refine (r1.out _).mono ?_
    rintro e w' ⟨rfl, rfl⟩
    go_wp2_with fail
    go_ret
    exact ⟨rfl, rfl⟩
  · have r1 := Kp.mk (fun w => check_in hy w)
    unfold chkM at hc
    rw [hy] at hc
    clear hy
    by_cases h1 : m < 1
    · obtain rfl : (7 : Int) = c := by rw [← hc, if_pos rfl, if_neg (by omega)]
      clear hc
      go_enter Tryd.func31, Tryd.ntmps31
      go_wp2_with fail
      refine (r1.out _).mono ?_
      rintro e w' ⟨rfl, rfl⟩
      go_wp2_with fail
      go_ret
      exact ⟨rfl, rfl⟩
    · by_cases h2 : 12 < m
      · obtain rfl : (7 : Int) = c := by rw [← hc, if_pos rfl, if_neg (by omega)]
        clear hc
        go_enter Tryd.func31, Tryd.ntmps31
        go_wp2_with fail
        refine (r1.out _).mono ?_
        rintro e w' ⟨rfl, rfl⟩
        go_wp2_with fail
        go_ret
        exact ⟨rfl, rfl⟩
      · obtain rfl : (0 : Int) = c := by rw [← hc, if_pos rfl, if_pos (by omega)]
        clear hc
        go_enter Tryd.func31, Tryd.ntmps31
        go_wp2_with fail
        refine (r1.out _).mono ?_
        rintro e w' ⟨rfl, rfl⟩
        go_wp2_with fail
        go_ret
        exact ⟨rfl, rfl⟩
theorem zero12 : #[Value.int .i64 0, .int .i64 0, .int .i64 0, .int .i64 0, .int .i64 0, .int .i64 0, .int .i64 0, .int .i64 0, .int .i64 0, .int .i64 0, .int .i64 0, .int .i64 0] = cln 12 (fun _ => 0) := rfl
theorem zero13 : #[Value.int .i64 0, .int .i64 0, .int .i64 0, .int .i64 0, .int .i64 0, .int .i64 0, .int .i64 0, .int .i64 0, .int .i64 0, .int .i64 0, .int .i64 0, .int .i64 0, .int .i64 0] = cln 13 (fun _ => 0) := rfl
/-- two rows of the call's own -/
structure TwoRows (w : World) (t : TypeId) (n : Nat) (f : Nat → Int) (W : World) : Prop where
  below : Below w.heap.size w W
  a : Row W w.heap.size t n (fun _ => 0)
  b : Row W (w.heap.size + 1) t n f
theorem TwoRows.step {w W W' : World} {t : TypeId} {n : Nat} {f : Nat → Int} (h : TwoRows w t n f W) (hb : Below W.heap.size W W') : TwoRows w t n f W' :=
  ⟨h.below.trans (hb.mono h.below.size), h.a.step hb, h.b.step hb⟩
theorem TwoRows.congr {w W : World} {t : TypeId} {n : Nat} {f g : Nat → Int} (h : TwoRows w t n f W) (e : ∀ k, k < n → f k = g k) : TwoRows w t n g W := ⟨h.below, h.a, h.b.congr e⟩
theorem TwoRows.set {w W : World} {t : TypeId} {n : Nat} {f : Nat → Int} (h : TwoRows w t n f W) {i : Nat} (hi : i < n) (v : Int) :
    TwoRows w t n (fun k => if k = i then v else f k) (W.setCell ⟨w.heap.size + 1, i, none⟩ (.int .i64 v)) :=
  ⟨h.below.setCell (Nat.le_succ _) _, h.a.other _ _ (by simp), h.b.set hi v⟩
theorem TwoRows.setRow {w W : World} {t : TypeId} {n : Nat} {f : Nat → Int} (h : TwoRows w t n f W) (f' : Nat → Int) :
    TwoRows w t n f' (W.setRow (w.heap.size + 1) (cln n f')) :=
  ⟨below_setRow h.below (Nat.le_succ _) _, h.a.otherRow _ _ (by omega), h.b.setRow f'⟩
theorem two_new (w : World) (t : TypeId) (n : Nat) : TwoRows w t n (fun _ => 0) ((w.alloc (.cells (cln n fun _ => 0) t)).alloc (.cells (cln n fun _ => 0) t)) :=
  ⟨below2 w _ _, (row_new w n _ t).step (below1 _ _), by have := row_new (w.alloc (.cells (cln n fun _ => 0) t)) n (fun _ => 0) t; rw [World.size_alloc] at this; exact this⟩
set_option maxHeartbeats 1000000 in
theorem lengths_is {y : Int} (hy : isY y = true) (w : World) (hL : LaidMo w) :
    Calls Tryd.prog 44 #[.int .i64 y] w fun e w' => e = .returned (.agg (cln 12 (lnF y))) ∧ Below w.heap.size w w' := by
  have HF := Kp.mk (lnF_com (y := y))
  obtain ⟨b, hb⟩ : ∃ b, leapB y = b := ⟨_, rfl⟩
  rw [hb] at HF
  have r1 := Kp.mk (fun w => leap_in hy hb w)
  have HL := Kp.mk hL
  obtain ⟨tc, fr, hc0⟩ := hL.common
  have hc : ∀ o, (w.alloc o).heap[1]? = some (.cells (cln 12 cmF) tc fr) := fun o => by rw [(below1 w o).block _ (Array.getElem?_eq_some_iff.1 hc0).1]; exact hc0
  clear hc0
  have HT := Kp.mk (two_new w 74 12)
  clear hy hL hb
  go_enter Tryd.func44, Tryd.ntmps44
  go_wp2_with (first
    | refine wpList_load_row rfl 74 (.global 1) rfl 1 rfl tc (cln 12 cmF) fr _ (hc _) Tryd.underlying74 rfl info12 ?_
    | refine wpList_store_row' rfl 74 (.tmp 3) (.tmp 6) rfl (w.heap.size + 1) (cln 12 cmF) rfl rfl 74 (cln 12 fun _ => 0) (HT.out.b.heap) info12 rfl (cln_one _ _) ?_)
  have HT := Kp.mk (HT.out.setRow cmF)
  refine (r1.out _ (HL.out.yr.below HT.out.below)).mono ?_
  rintro e w' ⟨rfl, hbl⟩
  have HT := Kp.mk (HT.out.step hbl)
  clear hbl hc
  cases b
  · have HT := Kp.mk (HT.out.congr (g := lnF y) (fun k hk => by rw [← HF.out k hk]; by_cases h : k = 1; rw [if_pos h, h]; rfl; rw [if_neg h]))
    go_wp2_with (first
      | refine wpList_load_row rfl 74 (.tmp 3) rfl (w.heap.size + 1) rfl 74 (cln 12 (lnF y)) (0, 0) _ HT.out.b.heap Tryd.underlying74 rfl info12 ?_
      | refine wpList_store_row' rfl 74 (.tmp 2) (.tmp 17) rfl w.heap.size (cln 12 (lnF y)) rfl rfl 74 (cln 12 fun _ => 0) HT.out.a.heap info12 rfl (cln_one _ _) ?_)
    refine bodyPost_ret (results_cell_row (p := 2) (ty := 74) rfl _ _ w.heap.size 74 (cln 12 (lnF y)) (0, 0) _ rfl (setRow_heap _ _ _ _ _ _ HT.out.a.heap) Tryd.underlying74 rfl info12) rfl ?_
    exact ⟨rfl, below_setRow HT.out.below (Nat.le_refl _) _⟩
  · have c1 : w'.cell? ⟨w.heap.size + 1, 1, none⟩ = some (.int .i64 28) := HT.out.b.cell (by decide)
    have f1 : w'.frozen? ⟨w.heap.size + 1, 1, none⟩ = false := HT.out.b.frozen 1
    have HT := Kp.mk ((HT.out.set (i := 1) (by decide) 29).congr (g := lnF y) (fun k hk => by rw [← HF.out k hk]; rfl))
    go_wp2_with (first
      | refine wpList_load_row rfl 74 (.tmp 3) rfl (w.heap.size + 1) rfl 74 (cln 12 (lnF y)) (0, 0) _ HT.out.b.heap Tryd.underlying74 rfl info12 ?_
      | refine wpList_store_row' rfl 74 (.tmp 2) (.tmp 17) rfl w.heap.size (cln 12 (lnF y)) rfl rfl 74 (cln 12 fun _ => 0) HT.out.a.heap info12 rfl (cln_one _ _) ?_)
    refine bodyPost_ret (results_cell_row (p := 2) (ty := 74) rfl _ _ w.heap.size 74 (cln 12 (lnF y)) (0, 0) _ rfl (setRow_heap _ _ _ _ _ _ HT.out.a.heap) Tryd.underlying74 rfl info12) rfl ?_
    exact ⟨rfl, below_setRow HT.out.below (Nat.le_refl _) _⟩
theorem stF_zero {y : Int} (k : Nat) (_ : k < 13) : (if k = 0 then Sd y else 0) = stF y 0 k := by
  unfold stF
  by_cases h : k = 0
  · rw [if_pos h, if_pos (by omega), h]; exact (Sm_one y).symm
  · rw [if_neg h, if_neg (by omega)]
theorem stF_succ {y v : Int} {i : Nat} (hv : Sm y ((i : Int) + 1 + 1) = v) (k : Nat) (_ : k < 13) : (if k = i + 1 then v else stF y i k) = stF y (i + 1) k := by
  unfold stF
  by_cases h : k = i + 1
  · rw [if_pos h, if_pos (by omega), h, ← hv]; rfl
  · rw [if_neg h]
    by_cases g : k ≤ i
    · rw [if_pos g, if_pos (by omega)]
    · rw [if_neg g, if_neg (by omega)]
set_option maxHeartbeats 1000000 in
theorem starts_is {y : Int} (hy : isY y = true) (w : World) (hL : LaidMo w) :
    Calls Tryd.prog 35 #[.int .i64 y] w fun e w' => e = .returned (.agg (cln 13 (stF y 12))) ∧ Below w.heap.size w w' := by
  have r1 := Kp.mk (fun w => start_pub hy (rfl : Sd y = Sd y) w)
  have r2 := Kp.mk (fun w => lengths_is hy w)
  have HL := Kp.mk hL
  have HT := Kp.mk (two_new w 68 13)
  have HY := Kp.mk hy
  have HS := Kp.mk (stF_zero (y := y))
  clear hL hy
  go_enter Tryd.func35, Tryd.ntmps35
  go_wp2_with fail
  refine (r1.out _ (HL.out.yr.below HT.out.below)).mono ?_
  rintro e w' ⟨rfl, hbl⟩
  have HT := Kp.mk (HT.out.step hbl)
  clear hbl
  have c1 : w'.cell? ⟨w.heap.size + 1, 0, none⟩ = some (.int .i64 0) := HT.out.b.cell (by decide)
  have f1 : w'.frozen? ⟨w.heap.size + 1, 0, none⟩ = false := HT.out.b.frozen 0
  have HT := Kp.mk ((HT.out.set (i := 0) (by decide) (Sd y)).congr HS.out)
  generalize Sd y = s at *
  go_wp2_with fail
  refine (r2.out _ (HL.out.below HT.out.below)).mono ?_
  rintro e w2 ⟨rfl, hbl⟩
  have HT := Kp.mk (HT.out.step hbl)
  clear hbl c1 f1
  go_wp2_with fail
  go_loopw [14] (fun i wr => ∃ k : Nat, k ≤ 12 ∧ i = .int .i64 k ∧ Kp (TwoRows w 68 13 (stF y k) wr)) (fun i _ => 12 - (intOf i).toNat)
  case atStart => exact ⟨0, by omega, rfl, HT⟩
  case round =>
    obtain ⟨k, hk, rfl, HT⟩ := hrel
    by_cases hlt : k < 12
    · have hin := Sm_in (y := y) (show (1 : Int) ≤ (k : Int) + 1 by omega) (show (k : Int) + 1 ≤ 13 by omega)
      have hsi := Sd_in HY.out
      have hll := lenM_in y ((k : Int) + 1)
      have hsu := Sm_succ (y := y) (show (1 : Int) ≤ (k : Int) + 1 by omega) (show (k : Int) + 1 ≤ 12 by omega)
      have hix := fun w => index_cln (P := Tryd.prog) (f := lnF y) Tryd.underlying74 Tryd.underlying3 info_int hlt w
      have c1 : wr.cell? ⟨w.heap.size + 1, k, none⟩ = some (.int .i64 (stF y k k)) := HT.out.b.cell (by omega)
      have c2 : wr.cell? ⟨w.heap.size + 1, k + 1, none⟩ = some (.int .i64 (stF y k (k + 1))) := HT.out.b.cell (by omega)
      have f2 : wr.frozen? ⟨w.heap.size + 1, k + 1, none⟩ = false := HT.out.b.frozen _
      have e1 : stF y k k = Sm y ((k : Int) + 1) := by unfold stF; rw [if_pos (Nat.le_refl _)]
      have e2 : lnF y k = lenM y ((k : Int) + 1) := rfl
      rw [e1] at c1
      rw [e2] at hix
      have HN := Kp.mk (fun (v : Int) (hv : Sm y ((k : Int) + 1 + 1) = v) => (HT.out.set (i := k + 1) (by omega) v).congr (stF_succ hv))
      have HQ := Kp.mk hsu
      obtain ⟨a, ha⟩ : ∃ a, Sm y ((k : Int) + 1) = a := ⟨_, rfl⟩
      obtain ⟨b, hb⟩ : ∃ b, lenM y ((k : Int) + 1) = b := ⟨_, rfl⟩
      rw [ha] at hin c1
      rw [hb] at hll hix
      rw [ha, hb] at HQ
      have w1 : IntKind.i64.wrap (a + b) = a + b := IntWalk.i64_in _ (by omega)
      have w2 : IntKind.i64.wrap ((k : Int) + 1) = (k : Int) + 1 := IntWalk.i64_in _ (by omega)
      have HN := Kp.mk (HN.out _ HQ.out)
      clear hin hsi hll hsu e1 e2 ha hb hk
      go_wp2_with fail
      go_roundw
      case rel =>
        first
          | exact ⟨k + 1, by omega, by go_num, HN⟩
          | ((repeat apply Exists.intro); exact ⟨⟨k + 1, by omega, by go_num, HN⟩, rfl⟩)
      case measure => simp [intOf] <;> omega
    · obtain rfl : k = 12 := by omega
      go_wp2_with (first
        | refine wpList_load_row rfl 68 (.tmp 3) rfl (w.heap.size + 1) rfl 68 (cln 13 (stF y 12)) (0, 0) _ HT.out.b.heap Tryd.underlying68 rfl info13 ?_
        | refine wpList_store_row' rfl 68 (.tmp 2) (.tmp 27) rfl w.heap.size (cln 13 (stF y 12)) rfl rfl 68 (cln 13 fun _ => 0) HT.out.a.heap info13 rfl (cln_one _ _) ?_)
      refine bodyPost_ret (results_cell_row (p := 2) (ty := 68) rfl _ _ w.heap.size 68 (cln 13 (stF y 12)) (0, 0) _ rfl (setRow_heap _ _ _ _ _ _ HT.out.a.heap) Tryd.underlying68 rfl info13) rfl ?_
      exact ⟨rfl, below_setRow HT.out.below (Nat.le_refl _) _⟩
end Go.Proofs.YtnmpejhljdkkgaaDoor
