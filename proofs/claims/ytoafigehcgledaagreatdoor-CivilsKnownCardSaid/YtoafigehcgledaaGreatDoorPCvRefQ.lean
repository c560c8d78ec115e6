/-
  DERIVED. CONTRACT of the reference of layer 6 (civils): Parse, what is refused for its year's form. Written by mkcvparse.py.
-/
import Derived.Test.YtoafigehcgledaaGreatDoorPCvRefM
namespace Go.Proofs.YtoafigehcgledaaGreatDoor
open Go.RowKit

set_option maxRecDepth 100000 in
set_option maxHeartbeats 1000000 in
theorem rp_neg1 {l yr : List UInt8} {a b c d : UInt8} {k : Nat} (hC : Cut l (45 :: yr) 45 a b 45 c d k) (hk : 4 ≤ k) (hm : k ≤ 94) (h2 : digB [c, d] = true) (h5 : digB [a, b] = true)
    (h : yr.length < 4) (w : World) : Calls Tryz.prog 30 #[.string (bs l)] w fun e w' => Bad e ∧ Below w.heap.size w w' := by
  obtain ⟨n, hn⟩ : ∃ n, k + 6 = n := ⟨_, rfl⟩
  obtain ⟨i1, hi1⟩ : ∃ n, k + 5 = n := ⟨_, rfl⟩
  obtain ⟨i2, hi2⟩ : ∃ n, k + 4 = n := ⟨_, rfl⟩
  obtain ⟨i3, hi3⟩ : ∃ n, k + 3 = n := ⟨_, rfl⟩
  obtain ⟨i4, hi4⟩ : ∃ n, k + 2 = n := ⟨_, rfl⟩
  obtain ⟨i5, hi5⟩ : ∃ n, k + 1 = n := ⟨_, rfl⟩
  have hlen : (bs l).size = n := by rw [bs_size, hC.size, hn]
  have x3 := idx_bs (i := i3) (c := 45) (by rw [← hi3]; exact hC.at 3)
  have x6 := idx_bs (i := k) (c := 45) (hC.at 0)
  have y2 := from_bs (l := l) (i := i2) (by rw [hC.size]; omega)
  have y5 := mid_bs (l := l) (i := i5) (j := i3) (by omega) (by rw [hC.size]; omega)
  rw [← hi2, hC.dd, hi2] at y2
  rw [← hi5, ← hi3, hC.mm, hi5, hi3] at y5
  have w1 : IntKind.i64.wrap ((n : Int) - 1) = (i1 : Int) := by rw [show (n : Int) - 1 = (i1 : Int) by omega]; exact IntWalk.i64_in _ (by omega)
  have w2 : IntKind.i64.wrap ((n : Int) - 2) = (i2 : Int) := by rw [show (n : Int) - 2 = (i2 : Int) by omega]; exact IntWalk.i64_in _ (by omega)
  have w3 : IntKind.i64.wrap ((n : Int) - 3) = (i3 : Int) := by rw [show (n : Int) - 3 = (i3 : Int) by omega]; exact IntWalk.i64_in _ (by omega)
  have w4 : IntKind.i64.wrap ((n : Int) - 4) = (i4 : Int) := by rw [show (n : Int) - 4 = (i4 : Int) by omega]; exact IntWalk.i64_in _ (by omega)
  have w5 : IntKind.i64.wrap ((n : Int) - 5) = (i5 : Int) := by rw [show (n : Int) - 5 = (i5 : Int) by omega]; exact IntWalk.i64_in _ (by omega)
  have w6 : IntKind.i64.wrap ((n : Int) - 6) = (k : Int) := by rw [show (n : Int) - 6 = (k : Int) by omega]; exact IntWalk.i64_in _ (by omega)
  have hn10 : ¬ (n : Int) < 10 := by omega
  have r2 := Kp.mk (fun w => digits_is (s := bs [c, d]) (b := true) (by rw [bs_size]; simp) h2 w)
  have r5 := Kp.mk (fun w => digits_is (s := bs [a, b]) (b := true) (by rw [bs_size]; simp) h5 w)
  have y6 := to_bs (l := l) (i := k) (by rw [hC.size]; omega)
  rw [hC.z] at y6
  have t3 : (((45 : UInt8).toNat : Int) != 45) = false := by decide
  have x0 : ∀ w, (Instr.index 9 (.string (bs (45 :: yr))) (.int .i64 0)).run Tryz.prog w = .ok (.int .u8 ((45 : UInt8).toNat : Int)) w := idx_bs (i := 0) rfl
  have t0 : (((45 : UInt8).toNat : Int) == 45) = true := by decide
  have y1 : ∀ w, (Instr.slice 9 (.string (bs (45 :: yr))) (some (.int .i64 1)) none none).run Tryz.prog w = .ok (.string (bs yr)) w := from_bs (l := 45 :: yr) (i := 1) (by simp)
  have hyl : yr.length + 1 = k := by rw [← hC.len]; rfl
  obtain ⟨c0, hc0⟩ : ∃ c0, yr[0]? = some c0 := ⟨yr[0]'(by omega), List.getElem?_eq_getElem _⟩
  have v0 : ∀ w, (Instr.index 9 (.string (bs yr)) (.int .i64 0)).run Tryz.prog w = .ok (.int .u8 (c0.toNat : Int)) w := idx_bs (i := 0) hc0
  have hgd : yr.getD 0 0 = c0 := by rw [List.getD_eq_getElem?_getD, hc0]; rfl
  obtain ⟨ny, hny⟩ : ∃ n, yr.length = n := ⟨_, rfl⟩
  have hys : (bs yr).size = ny := by rw [bs_size, hny]
  obtain ⟨By, hBy⟩ : ∃ B, digB yr = B := ⟨_, rfl⟩
  have ry := Kp.mk (fun w => digits_is (s := bs yr) (b := By) (by rw [bs_size]; omega) hBy w)
  obtain ⟨Z, hZ⟩ : ∃ Z, decide (yr = [48, 48, 48, 48]) = Z := ⟨_, rfl⟩
  have hz : ((bs yr).toList == [48, 48, 48, 48]) = Z := by
    rw [← hZ, ByteArray.toList_eq, show (bs yr).data.toList = yr from rfl, Bool.eq_iff_iff, beq_iff_eq, decide_eq_true_iff]
  rw [hny] at h
  have g4 : (ny : Int) < 4 := by omega
  clear hC hk hm hn hi1 hi2 hi3 hi4 hi5 h2 h5 hyl hc0 hgd hny hBy hZ h
  clear hz
  generalize bs (45 :: yr) = sz at *
  generalize bs l = s at *
  generalize bs [c, d] = s2 at *
  generalize bs [a, b] = s5 at *
  generalize bs yr = sy at *
  generalize c0.toNat = v at *
  go_enter Tryz.func30, Tryz.ntmps30
  go_wp2_with fail
  refine (r2.out _).mono ?_
  rintro e w' ⟨rfl, rfl⟩
  go_wp2_with fail
  refine (r5.out _).mono ?_
  rintro e w' ⟨rfl, rfl⟩
  go_wp2_with fail
  refine bodyPost_ret (v := .tuple #[.agg #[.int .i64 0, .int .i64 0, .int .i64 0], .int .i64 5]) (by simp [results, Tryz.results30, go_sem]) rfl ?_
  exact ⟨rfl, (Below.refl w.heap.size w).alloc (Nat.le_refl _) _⟩
set_option maxRecDepth 100000 in
set_option maxHeartbeats 1000000 in
theorem rp_neg2 {l yr : List UInt8} {a b c d : UInt8} {k : Nat} (hC : Cut l (45 :: yr) 45 a b 45 c d k) (hk : 4 ≤ k) (hm : k ≤ 94) (h2 : digB [c, d] = true) (h5 : digB [a, b] = true)
    (h : 4 ≤ yr.length ∧ digB yr = false) (w : World) : Calls Tryz.prog 30 #[.string (bs l)] w fun e w' => Bad e ∧ Below w.heap.size w w' := by
  obtain ⟨n, hn⟩ : ∃ n, k + 6 = n := ⟨_, rfl⟩
  obtain ⟨i1, hi1⟩ : ∃ n, k + 5 = n := ⟨_, rfl⟩
  obtain ⟨i2, hi2⟩ : ∃ n, k + 4 = n := ⟨_, rfl⟩
  obtain ⟨i3, hi3⟩ : ∃ n, k + 3 = n := ⟨_, rfl⟩
  obtain ⟨i4, hi4⟩ : ∃ n, k + 2 = n := ⟨_, rfl⟩
  obtain ⟨i5, hi5⟩ : ∃ n, k + 1 = n := ⟨_, rfl⟩
  have hlen : (bs l).size = n := by rw [bs_size, hC.size, hn]
  have x3 := idx_bs (i := i3) (c := 45) (by rw [← hi3]; exact hC.at 3)
  have x6 := idx_bs (i := k) (c := 45) (hC.at 0)
  have y2 := from_bs (l := l) (i := i2) (by rw [hC.size]; omega)
  have y5 := mid_bs (l := l) (i := i5) (j := i3) (by omega) (by rw [hC.size]; omega)
  rw [← hi2, hC.dd, hi2] at y2
  rw [← hi5, ← hi3, hC.mm, hi5, hi3] at y5
  have w1 : IntKind.i64.wrap ((n : Int) - 1) = (i1 : Int) := by rw [show (n : Int) - 1 = (i1 : Int) by omega]; exact IntWalk.i64_in _ (by omega)
  have w2 : IntKind.i64.wrap ((n : Int) - 2) = (i2 : Int) := by rw [show (n : Int) - 2 = (i2 : Int) by omega]; exact IntWalk.i64_in _ (by omega)
  have w3 : IntKind.i64.wrap ((n : Int) - 3) = (i3 : Int) := by rw [show (n : Int) - 3 = (i3 : Int) by omega]; exact IntWalk.i64_in _ (by omega)
  have w4 : IntKind.i64.wrap ((n : Int) - 4) = (i4 : Int) := by rw [show (n : Int) - 4 = (i4 : Int) by omega]; exact IntWalk.i64_in _ (by omega)
  have w5 : IntKind.i64.wrap ((n : Int) - 5) = (i5 : Int) := by rw [show (n : Int) - 5 = (i5 : Int) by omega]; exact IntWalk.i64_in _ (by omega)
  have w6 : IntKind.i64.wrap ((n : Int) - 6) = (k : Int) := by rw [show (n : Int) - 6 = (k : Int) by omega]; exact IntWalk.i64_in _ (by omega)
  have hn10 : ¬ (n : Int) < 10 := by omega
  have r2 := Kp.mk (fun w => digits_is (s := bs [c, d]) (b := true) (by rw [bs_size]; simp) h2 w)
  have r5 := Kp.mk (fun w => digits_is (s := bs [a, b]) (b := true) (by rw [bs_size]; simp) h5 w)
  have y6 := to_bs (l := l) (i := k) (by rw [hC.size]; omega)
  rw [hC.z] at y6
  have t3 : (((45 : UInt8).toNat : Int) != 45) = false := by decide
  have x0 : ∀ w, (Instr.index 9 (.string (bs (45 :: yr))) (.int .i64 0)).run Tryz.prog w = .ok (.int .u8 ((45 : UInt8).toNat : Int)) w := idx_bs (i := 0) rfl
  have t0 : (((45 : UInt8).toNat : Int) == 45) = true := by decide
  have y1 : ∀ w, (Instr.slice 9 (.string (bs (45 :: yr))) (some (.int .i64 1)) none none).run Tryz.prog w = .ok (.string (bs yr)) w := from_bs (l := 45 :: yr) (i := 1) (by simp)
  have hyl : yr.length + 1 = k := by rw [← hC.len]; rfl
  obtain ⟨c0, hc0⟩ : ∃ c0, yr[0]? = some c0 := ⟨yr[0]'(by omega), List.getElem?_eq_getElem _⟩
  have v0 : ∀ w, (Instr.index 9 (.string (bs yr)) (.int .i64 0)).run Tryz.prog w = .ok (.int .u8 (c0.toNat : Int)) w := idx_bs (i := 0) hc0
  have hgd : yr.getD 0 0 = c0 := by rw [List.getD_eq_getElem?_getD, hc0]; rfl
  obtain ⟨ny, hny⟩ : ∃ n, yr.length = n := ⟨_, rfl⟩
  have hys : (bs yr).size = ny := by rw [bs_size, hny]
  obtain ⟨By, hBy⟩ : ∃ B, digB yr = B := ⟨_, rfl⟩
  have ry := Kp.mk (fun w => digits_is (s := bs yr) (b := By) (by rw [bs_size]; omega) hBy w)
  obtain ⟨Z, hZ⟩ : ∃ Z, decide (yr = [48, 48, 48, 48]) = Z := ⟨_, rfl⟩
  have hz : ((bs yr).toList == [48, 48, 48, 48]) = Z := by
    rw [← hZ, ByteArray.toList_eq, show (bs yr).data.toList = yr from rfl, Bool.eq_iff_iff, beq_iff_eq, decide_eq_true_iff]
  rw [hny, hBy] at h
  have g4 : ¬ (ny : Int) < 4 := by omega
  obtain ⟨h, rfl⟩ := h
  clear hC hk hm hn hi1 hi2 hi3 hi4 hi5 h2 h5 hyl hc0 hgd hny hBy hZ h
  clear hz
  generalize bs (45 :: yr) = sz at *
  generalize bs l = s at *
  generalize bs [c, d] = s2 at *
  generalize bs [a, b] = s5 at *
  generalize bs yr = sy at *
  generalize c0.toNat = v at *
  go_enter Tryz.func30, Tryz.ntmps30
  go_wp2_with fail
  refine (r2.out _).mono ?_
  rintro e w' ⟨rfl, rfl⟩
  go_wp2_with fail
  refine (r5.out _).mono ?_
  rintro e w' ⟨rfl, rfl⟩
  go_wp2_with fail
  refine (ry.out _).mono ?_
  rintro e w' ⟨rfl, rfl⟩
  go_wp2_with fail
  refine bodyPost_ret (v := .tuple #[.agg #[.int .i64 0, .int .i64 0, .int .i64 0], .int .i64 5]) (by simp [results, Tryz.results30, go_sem]) rfl ?_
  exact ⟨rfl, (Below.refl w.heap.size w).alloc (Nat.le_refl _) _⟩
end Go.Proofs.YtoafigehcgledaaGreatDoor
