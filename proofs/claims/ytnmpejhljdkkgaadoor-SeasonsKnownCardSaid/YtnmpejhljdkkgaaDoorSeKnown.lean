/-
  DERIVED. WALK of the law SeasonsKnown, given the contracts of package seasons. Written by mkse4.py.
-/
import Derived.Test.YtnmpejhljdkkgaaDoorSeRun
import Derived.Test.YtnmpejhljdkkgaaDoorSeOf
namespace Go.Proofs.YtnmpejhljdkkgaaDoor
open Go.RowKit
set_option maxRecDepth 100000

def yearsL : List Int := [(-10000000000000000), (-1), 0, 1899, 1900, 2000, 9999999999999999, 10000000000000000, 10000000000000001]
theorem yearsL_in : ∀ j : Fin 9, -9223372036854775808 ≤ yearsL.getD j.1 0 ∧ yearsL.getD j.1 0 ≤ 9223372036854775807 := by decide
set_option maxHeartbeats 4000000 in
theorem lawKnown_any {I : World → Prop} (C : SeaFns I) (w : World) (hI : I w) :
    Calls Tryd.prog 6 #[] w fun e w' => e = .returned (.bool true) ∧ Below w.heap.size w w' := by
  have HI := Kp.mk (fun (v : World) (h : Below w.heap.size w v) => C.keep hI h)
  clear hI
  have rl := Kp.mk (fun v (hw : Below w.heap.size w v) => C.lives v (HI.out v hw))
  have rr := Kp.mk (fun (y c : Int) (y0 : -9223372036854775808 ≤ y) (y1 : y ≤ 9223372036854775807) (c0 : 0 ≤ c) (c1 : c ≤ 100) v (hw : Below w.heap.size w v) => lawRun_any C y c v (HI.out v hw) y0 y1 (by omega) (by omega))
  have ro := Kp.mk (fun (d c : Int) (d0 : -9223372036854775808 ≤ d) (d1 : d ≤ 9223372036854775807) (c0 : 0 ≤ c) (c1 : c ≤ 100) v (hw : Below w.heap.size w v) => lawOf_any C d c v (HI.out v hw) d0 d1 (by omega) (by omega))
  have HN := Kp.mk (nums_new yearsL 2 (Below.refl w.heap.size w))
  have hrow : (.cells (yearsL.map fun x => Value.int .i64 x).toArray 2 : Obj) = (.cells #[.int .i64 (-10000000000000000), .int .i64 (-1), .int .i64 0, .int .i64 1899, .int .i64 1900, .int .i64 2000, .int .i64 9999999999999999, .int .i64 10000000000000000, .int .i64 10000000000000001] 2) := rfl
  rw [hrow] at HN
  have HY := Kp.mk yearsL_in
  have hlen : yearsL.length = 9 := rfl
  clear hrow C
  go_enter Tryd.func6, Tryd.ntmps6
  go_upto_region 2 with fail
  generalize w.alloc (.cells #[.int .i64 (-10000000000000000), .int .i64 (-1), .int .i64 0, .int .i64 1899, .int .i64 1900, .int .i64 2000, .int .i64 9999999999999999, .int .i64 10000000000000000, .int .i64 10000000000000001] 2) = w0 at *
  go_wp2_with fail
  go_loopw [2, 3] (fun i _ wr => ∃ j : Nat, j ≤ 9 ∧ i = .int .i64 j ∧ Kp (Nums w w.heap.size yearsL wr)) (fun i _ _ => 9 - (intOf i).toNat)
  case atStart => exact ⟨0, by omega, rfl, HN⟩
  case round =>
    obtain ⟨j, hj, rfl, HN⟩ := hrel
    by_cases hlt : j < 9
    · have td : decide ((j : Int) < 9) = true := decide_eq_true (by omega)
      have w1 : IntKind.i64.wrap ((j : Int) + 1) = (j : Int) + 1 := IntWalk.i64_in _ (by omega)
      obtain ⟨x, hx⟩ : ∃ x, yearsL.getD j 0 = x := ⟨_, rfl⟩
      have hb := HY.out ⟨j, hlt⟩
      simp only at hb
      rw [hx] at hb
      have HX := Kp.mk hx
      have HBD := Kp.mk hb
      clear hx hb
      go_wp2_with fail
      go_loopw [3] (fun c wr => ∃ n : Nat, n ≤ 25 ∧ c = .int .i64 (19 + (n : Int)) ∧ Kp (Nums w w.heap.size yearsL wr)) (fun c _ => (44 - intOf c).toNat)
      case atStart => exact ⟨0, by omega, rfl, HN⟩
      case round =>
        obtain ⟨n, hn, rfl, HN⟩ := hrel
        by_cases hl2 : n < 25
        · have w2 : IntKind.i64.wrap (19 + (n : Int) + 1) = 19 + (n : Int) + 1 := IntWalk.i64_in _ (by omega)
          have t9 : 19 + (n : Int) < 44 := by omega
          have n0 := HN.out.ints j (by rw [hlen]; exact hlt)
          rw [HX.out] at n0
          have r1 := Kp.mk (fun v hw => rr.out x (19 + (n : Int)) HBD.out.1 HBD.out.2 (by omega) (by omega) v hw)
          go_wp2_with fail
          refine (r1.out _ HN.out.below).mono ?_
          rintro e v1 ⟨rfl, hbl⟩
          have HN := Kp.mk (HN.out.step hbl)
          clear hbl n0
          go_wp2_with fail
          go_roundw
          case rel => exact ⟨n + 1, by omega, by go_num, HN⟩
          case measure => simp [intOf]; omega
        · obtain rfl : n = 25 := by omega
          go_wp2_with fail
          go_roundw
          case rel => exact ⟨j + 1, by omega, by go_num, HN⟩
          case measure => simp [intOf]; omega
    · have td : decide ((j : Int) < 9) = false := decide_eq_false (by omega)
      have td2 : ¬ (j : Int) < 9 := by omega
      have HB := Kp.mk (Bl.mk HN.out.below)
      clear HN hlt hj
      go_wp2_with fail
      go_loopw [4] (fun c wr => ∃ n : Nat, n ≤ 23 ∧ c = .int .i64 (20 + (n : Int)) ∧ Kp (Bl w wr)) (fun c _ => (43 - intOf c).toNat)
      case atStart => exact ⟨0, by omega, rfl, HB⟩
      case round =>
        obtain ⟨n, hn, rfl, HB⟩ := hrel
        by_cases hl2 : n < 23
        · have w2 : IntKind.i64.wrap (20 + (n : Int) + 1) = 20 + (n : Int) + 1 := IntWalk.i64_in _ (by omega)
          have t9 : 20 + (n : Int) < 43 := by omega
          have q0 := Kp.mk (fun v hw => ro.out (-3652425000000000000) (20 + (n : Int)) (by decide) (by decide) (by omega) (by omega) v hw)
          have q1 := Kp.mk (fun v hw => ro.out 3652425000000000365 (20 + (n : Int)) (by decide) (by decide) (by omega) (by omega) v hw)
          have q2 := Kp.mk (fun v hw => ro.out 3652425000000000366 (20 + (n : Int)) (by decide) (by decide) (by omega) (by omega) v hw)
          have q3 := Kp.mk (fun v hw => ro.out 0 (20 + (n : Int)) (by decide) (by decide) (by omega) (by omega) v hw)
          go_wp2_with fail
          refine (q0.out _ HB.out.below).mono ?_
          rintro e v0 ⟨rfl, hbl⟩
          have HB := Kp.mk (HB.out.step hbl)
          clear hbl
          go_wp2_with fail
          refine (q1.out _ HB.out.below).mono ?_
          rintro e v1 ⟨rfl, hbl⟩
          have HB := Kp.mk (HB.out.step hbl)
          clear hbl
          go_wp2_with fail
          refine (q2.out _ HB.out.below).mono ?_
          rintro e v2 ⟨rfl, hbl⟩
          have HB := Kp.mk (HB.out.step hbl)
          clear hbl
          go_wp2_with fail
          refine (q3.out _ HB.out.below).mono ?_
          rintro e v3 ⟨rfl, hbl⟩
          have HB := Kp.mk (HB.out.step hbl)
          clear hbl
          go_wp2_with fail
          go_roundw
          case rel => exact ⟨n + 1, by omega, by go_num, HB⟩
          case measure => simp [intOf]; omega
        · obtain rfl : n = 23 := by omega
          go_wp2_with fail
          refine (rl.out _ HB.out.below).mono ?_
          rintro e v1 ⟨rfl, hbl⟩
          have HB := Kp.mk (HB.out.step hbl)
          clear hbl
          go_wp2_with fail
          go_ret
          exact ⟨rfl, HB.out.below⟩
end Go.Proofs.YtnmpejhljdkkgaaDoor
