/-
  DERIVED. CONTRACTS of package years: the closure of Of, sort.Search with it.
-/
import Derived.Test.YtnmpejhljdkkgaaDoorYrDev
namespace Go.Proofs.YtnmpejhljdkkgaaDoor
open Go.RowKit
set_option maxRecDepth 100000

structure Box (b : Nat) (n : Int) (w : World) : Prop where
  laid : Laid w
  size : b < w.heap.size
  cell : w.cell? ⟨b, 0, none⟩ = some (.int .i64 n)
theorem Box.below {b : Nat} {n : Int} {w w' : World} (h : Box b n w) (hb : Below w.heap.size w w') : Box b n w' :=
  ⟨h.laid.below hb, by have := hb.size; have := h.size; omega, by rw [hb.cell (p := ⟨b, 0, none⟩) h.size]; exact h.cell⟩
theorem Box.drew {b : Nat} {n : Int} {w : World} (h : Box b n w) : Box b n w.drew :=
  ⟨⟨h.laid.size, h.laid.r0, h.laid.r1, h.laid.r2, h.laid.r3, h.laid.r4, h.laid.r5⟩, h.size, h.cell⟩
theorem drew_below (w : World) : Below w.heap.size w w.drew := ⟨rfl, rfl, rfl, Nat.le_refl _, fun _ _ => rfl⟩
/-- the closure: whether the day lies ahead of the next year's first day -/
theorem later_is {b i r : Nat} {n : Int} (hi : i < 400) (hs : decide (n < Sd (i + 1)) = decide (r ≤ i)) (w : World) (hB : Box b n w) :
    Calls Tryd.prog 47 #[.int .i64 i, .pointer (some ⟨b, 0, none⟩)] w fun e w' => e = .returned (.bool (decide (r ≤ i))) ∧ Below w.heap.size w w' := by
  have c := hB.cell
  have hd := Kp.mk hB.drew
  have w1 : IntKind.i64.wrap ((i : Int) + 1) = (i : Int) + 1 := IntWalk.i64_in _ (by omega)
  obtain ⟨s, hs2⟩ : ∃ s, Sd (i + 1) = s := ⟨_, rfl⟩
  rw [hs2] at hs
  have r1 := Kp.mk (fun w => start_is (y := (i : Int) + 1) (by omega) (by omega) hs2 w)
  have HS := Kp.mk hs
  clear hs hs2
  go_enter Tryd.func47, Tryd.ntmps47
  go_wp2_with fail
  go_region_held3 (fun w' => w'.cell? ⟨b, 0, none⟩ = some (.int .i64 n)) (first | go_keep | exact kc) (first | (refine (r1.out _ hd.out.laid).mono ?_; rintro e w' ⟨rfl, hb⟩; have kb := Kp.mk hb; have kc := (hd.out.below hb).cell; clear hb))
  go_wp2_with fail
  go_ret
  exact ⟨by rw [HS.out]; rfl, (drew_below w).trans kb.out⟩
set_option maxHeartbeats 2000000 in
/-- sort.Search with that closure -/
theorem search_is {b r : Nat} {n : Int} (hr : r < 400) (hs : ∀ i : Nat, i < 400 → decide (n < Sd (i + 1)) = decide (r ≤ i)) (w : World) (hB : Box b n w) :
    Calls Tryd.prog 46 #[.int .i64 400, .func (.func 47) #[] #[.pointer (some ⟨b, 0, none⟩)]] w fun e w' => e = .returned (.int .i64 r) ∧ Below w.heap.size w w' := by
  have HC := Kp.mk (fun (i : Nat) (hi : i < 400) (v : World) (h : Below w.heap.size w v) => later_is hi (hs i hi) v (hB.below h))
  have HB := Kp.mk (Below.refl w.heap.size w)
  clear hs hB
  go_enter Tryd.func46, Tryd.ntmps46
  go_wp2_with fail
  go_loopw [5, 6] (fun x y wr => ∃ lo hi : Nat, x = .int .i64 lo ∧ y = .int .i64 hi ∧ lo ≤ r ∧ r ≤ hi ∧ hi ≤ 400 ∧ Kp (Below w.heap.size w wr)) (fun x y _ => (intOf y - intOf x).toNat)
  case atStart => exact ⟨0, 400, rfl, rfl, by omega, by omega, by omega, HB⟩
  case round =>
    obtain ⟨lo, hi, rfl, rfl, h1, h2, h3, HB⟩ := hrel
    by_cases hlt : lo < hi
    · have hc := HC.out ((lo + hi) / 2) (by omega) wr HB.out
      rw [show (((lo + hi) / 2 : Nat) : Int) = ((lo : Int) + (hi : Int)) / 2 by omega] at hc
      by_cases hp : r ≤ (lo + hi) / 2
      · rw [decide_eq_true hp] at hc
        go_wp2_with fail
        refine hc.mono ?_
        rintro e w' ⟨rfl, hb⟩
        have HB := Kp.mk (HB.out.trans (hb.mono HB.out.size))
        clear hb hc
        go_wp2_with fail
        go_roundw
        case rel => exact ⟨lo, (lo + hi) / 2, rfl, by rw [show ((lo : Int) + (hi : Int)) / 2 = (((lo + hi) / 2 : Nat) : Int) by omega], by omega, by omega, by omega, HB⟩
        case measure => simp [intOf]; omega
      · rw [decide_eq_false hp] at hc
        go_wp2_with fail
        refine hc.mono ?_
        rintro e w' ⟨rfl, hb⟩
        have HB := Kp.mk (HB.out.trans (hb.mono HB.out.size))
        clear hb hc
        go_wp2_with fail
        go_roundw
        case rel => exact ⟨(lo + hi) / 2 + 1, hi, by rw [show ((lo : Int) + (hi : Int)) / 2 + 1 = (((lo + hi) / 2 + 1 : Nat) : Int) by omega], rfl, by omega, by omega, by omega, HB⟩
        case measure => simp [intOf]; omega
    · obtain rfl : lo = r := by omega
      obtain rfl : hi = lo := by omega
      go_wp2_with fail
      go_ret
      exact ⟨rfl, HB.out⟩
/-- where a day lies within its turn of 400 years -/
theorem in_turn {y d : Int} (h : YearHas y d) : 0 ≤ y - 400 * (d / 146097) ∧ y - 400 * (d / 146097) < 400 ∧ Sd (y - 400 * (d / 146097)) ≤ d % 146097 ∧ d % 146097 < Sd (y - 400 * (d / 146097) + 1) := by
  obtain ⟨h1, h2⟩ := h
  obtain ⟨q, hq⟩ : ∃ q, d / 146097 = q := ⟨_, rfl⟩
  have hr : d = 146097 * q + d % 146097 := by omega
  have hr2 : 0 ≤ d % 146097 ∧ d % 146097 < 146097 := by omega
  rw [hq]
  generalize d % 146097 = m at *
  obtain ⟨z, hz⟩ : ∃ z, y - 400 * q = z := ⟨_, rfl⟩
  have hy : y = 400 * q + z := by omega
  rw [hy, Sd_400] at h1
  rw [hy, show 400 * q + z + 1 = 400 * q + (z + 1) by omega, Sd_400] at h2
  rw [hz]
  have h0 : Sd 0 = 0 ∧ Sd 400 = 146097 := by decide
  refine ⟨?_, ?_, by omega, by omega⟩
  · by_cases e : 0 ≤ z
    · exact e
    · have := Sd_le (show z + 1 ≤ 0 by omega); omega
  · by_cases e : z < 400
    · exact e
    · have := Sd_le (show 400 ≤ z by omega); omega
theorem later_r {n : Int} {r : Nat} (h1 : Sd r ≤ n) (h2 : n < Sd (r + 1)) (i : Nat) : decide (n < Sd (i + 1)) = decide (r ≤ i) := by
  by_cases e : r ≤ i
  · rw [decide_eq_true e]
    have := Sd_le (show (r : Int) + 1 ≤ (i : Int) + 1 by omega)
    exact decide_eq_true (by omega)
  · rw [decide_eq_false e]
    have := Sd_le (show (i : Int) + 1 ≤ (r : Int) by omega)
    exact decide_eq_false (by omega)
set_option maxHeartbeats 1000000 in
theorem of_in {d y : Int} (h0 : -9223372036854775808 ≤ d) (h1 : d ≤ 9223372036854775807) (hd : YearHas y d) (hy : isY y = true) (w : World) (hL : Laid w) :
    Calls Tryd.prog 37 #[.int .i64 d] w fun e w' => e = .returned (.tuple #[.int .i64 y, .int .i64 0]) ∧ Below w.heap.size w w' := by
  obtain ⟨k1, k2, k3, k4⟩ := in_turn hd
  obtain ⟨q, hq⟩ : ∃ q, d / 146097 = q := ⟨_, rfl⟩
  obtain ⟨m, hm⟩ : ∃ m, d % 146097 = m := ⟨_, rfl⟩
  rw [hq] at k1 k2 k3 k4
  rw [hm] at k3 k4
  obtain ⟨r, hr⟩ : ∃ r : Nat, (r : Int) = y - 400 * q := ⟨(y - 400 * q).toNat, by omega⟩
  rw [← hr] at k1 k2 k3 k4
  have hyy := (isY_iff y).1 hy
  have w1 : IntKind.i64.wrap (q * 400) = q * 400 := IntWalk.i64_in _ (by omega)
  have w2 : IntKind.i64.wrap (q * 400 + (r : Int)) = y := by rw [show q * 400 + (r : Int) = y by omega]; exact IntWalk.i64_in _ (by omega)
  have r1 := Kp.mk (fun w => divide_is (k := 146097) h0 h1 (by omega) (by omega) hq hm w)
  have HX := Kp.mk (fun (W : World) (hB : Below w.heap.size w W) => search_is (b := W.heap.size) (r := r) (n := m) (by omega) (fun i _ => later_r k3 k4 i) (W.alloc (.cells #[.int .i64 m] 2))
    ⟨hL.below (hB.alloc hB.size _), by simp, by rw [World.cell?_alloc_new]; rfl⟩)
  have r3 := Kp.mk (fun w => check_in hy w)
  clear h0 h1 hd hy k1 k2 k3 k4 hq hm hr hyy hL
  go_enter Tryd.func37, Tryd.ntmps37
  go_wp2_with fail
  refine (r1.out _).mono ?_
  rintro e w' ⟨rfl, rfl⟩
  go_wp2_with fail
  refine (HX.out _ (Below.refl _ _)).mono ?_
  rintro e w' ⟨rfl, hb⟩
  have HB := Kp.mk (((Below.refl w.heap.size w).alloc (Nat.le_refl _) _).trans (hb.mono (by simp)))
  clear hb
  go_wp2_with fail
  refine (r3.out _).mono ?_
  rintro e w' ⟨rfl, rfl⟩
  go_wp2_with fail
  go_ret2
  exact ⟨rfl, HB.out⟩
set_option maxHeartbeats 1000000 in
theorem of_out {d y : Int} (h0 : -9223372036854775808 ≤ d) (h1 : d ≤ 9223372036854775807) (hd : YearHas y d) (hy : isY y = false) (w : World) (hL : Laid w) :
    Calls Tryd.prog 37 #[.int .i64 d] w fun e w' => e = .returned (.tuple #[.int .i64 0, .int .i64 6]) ∧ Below w.heap.size w w' := by
  obtain ⟨k1, k2, k3, k4⟩ := in_turn hd
  obtain ⟨q, hq⟩ : ∃ q, d / 146097 = q := ⟨_, rfl⟩
  obtain ⟨m, hm⟩ : ∃ m, d % 146097 = m := ⟨_, rfl⟩
  rw [hq] at k1 k2 k3 k4
  rw [hm] at k3 k4
  obtain ⟨r, hr⟩ : ∃ r : Nat, (r : Int) = y - 400 * q := ⟨(y - 400 * q).toNat, by omega⟩
  rw [← hr] at k1 k2 k3 k4
  have w1 : IntKind.i64.wrap (q * 400) = q * 400 := IntWalk.i64_in _ (by omega)
  have w2 : IntKind.i64.wrap (q * 400 + (r : Int)) = y := by rw [show q * 400 + (r : Int) = y by omega]; exact IntWalk.i64_in _ (by omega)
  have r1 := Kp.mk (fun w => divide_is (k := 146097) h0 h1 (by omega) (by omega) hq hm w)
  have HX := Kp.mk (fun (W : World) (hB : Below w.heap.size w W) => search_is (b := W.heap.size) (r := r) (n := m) (by omega) (fun i _ => later_r k3 k4 i) (W.alloc (.cells #[.int .i64 m] 2))
    ⟨hL.below (hB.alloc hB.size _), by simp, by rw [World.cell?_alloc_new]; rfl⟩)
  have r3 := Kp.mk (fun w => check_out hy w)
  clear h0 h1 hd hy k1 k2 k3 k4 hq hm hr hL
  go_enter Tryd.func37, Tryd.ntmps37
  go_wp2_with fail
  refine (r1.out _).mono ?_
  rintro e w' ⟨rfl, rfl⟩
  go_wp2_with fail
  refine (HX.out _ (Below.refl _ _)).mono ?_
  rintro e w' ⟨rfl, hb⟩
  have HB := Kp.mk (((Below.refl w.heap.size w).alloc (Nat.le_refl _) _).trans (hb.mono (by simp)))
  clear hb
  go_wp2_with fail
  refine (r3.out _).mono ?_
  rintro e w' ⟨rfl, rfl⟩
  go_wp2_with fail
  go_ret2
  exact ⟨rfl, HB.out⟩
end Go.Proofs.YtnmpejhljdkkgaaDoor
