/-
  DERIVED. CONTRACT of the reference of layer 6 (civils): Parse, what is refused for its form. Written by mkcvparse.py.
-/
import Derived.Test.YtoafigehcgledaaGreatDoorPCo
namespace Go.Proofs.YtoafigehcgledaaGreatDoor
open Go.RowKit

def Bad (e : Ending) : Prop := e = .returned (.tuple #[.agg #[.int .i64 0, .int .i64 0, .int .i64 0], .int .i64 5])
set_option maxRecDepth 100000 in
theorem rp_short {l : List UInt8} (h : l.length < 10) (w : World) : Calls Tryz.prog 30 #[.string (bs l)] w fun e w' => Bad e ∧ Below w.heap.size w w' := by
  have hsz : ((bs l).size : Int) < 10 := by rw [bs_size]; omega
  generalize bs l = s at *
  clear h
  go_enter Tryz.func30, Tryz.ntmps30
  go_wp2_with fail
  refine bodyPost_ret (v := .tuple #[.agg #[.int .i64 0, .int .i64 0, .int .i64 0], .int .i64 5]) (by simp [results, Tryz.results30, go_sem]) rfl ?_
  exact ⟨rfl, (Below.refl w.heap.size w).alloc (Nat.le_refl _) _⟩
set_option maxRecDepth 100000 in
set_option maxHeartbeats 1000000 in
theorem rp_first {l z : List UInt8} {p a b q c d : UInt8} {k : Nat} (hC : Cut l z p a b q c d k) (hk : 4 ≤ k) (hm : k ≤ 94) (h : ¬ (q = 45 ∧ p = 45 ∧ digB [c, d] = true ∧ digB [a, b] = true)) (w : World) : Calls Tryz.prog 30 #[.string (bs l)] w fun e w' => Bad e ∧ Below w.heap.size w w' := by
  obtain ⟨n, hn⟩ : ∃ n, k + 6 = n := ⟨_, rfl⟩
  obtain ⟨i1, hi1⟩ : ∃ n, k + 5 = n := ⟨_, rfl⟩
  obtain ⟨i2, hi2⟩ : ∃ n, k + 4 = n := ⟨_, rfl⟩
  obtain ⟨i3, hi3⟩ : ∃ n, k + 3 = n := ⟨_, rfl⟩
  obtain ⟨i4, hi4⟩ : ∃ n, k + 2 = n := ⟨_, rfl⟩
  obtain ⟨i5, hi5⟩ : ∃ n, k + 1 = n := ⟨_, rfl⟩
  have hlen : (bs l).size = n := by rw [bs_size, hC.size, hn]
  have x3 := idx_bs (i := i3) (c := q) (by rw [← hi3]; exact hC.at 3)
  have x6 := idx_bs (i := k) (c := p) (hC.at 0)
  have y2 := from_bs (l := l) (i := i2) (by rw [hC.size]; omega)
  have y5 := mid_bs (l := l) (i := i5) (j := i3) (by omega) (by rw [hC.size]; omega)
  rw [← hi2, hC.dd, hi2] at y2
  rw [← hi5, ← hi3, hC.mm, hi5, hi3] at y5
  have w1 : IntKind.i64.wrap ((n : Int) - 1) = (i1 : Int) := by rw [show (n : Int) - 1 = (i1 : Int) by omega]; exact IntWalk.i64_in _ (by omega)
  have w2 : IntKind.i64.wrap ((n : Int) - 2) = (i2 : Int) := by rw [show (n : Int) - 2 = (i2 : Int) by omega]; exact IntWalk.i64_in _ (by omega)
  have w3 : IntKind.i64.wrap ((n : Int) - 3) = (i3 : Int) := by rw [show (n : Int) - 3 = (i3 : Int) by omega]; exact IntWalk.i64_in _ (by omega)
  have w4 : IntKind.i64.wrap ((n : Int) - 4) = (i4 : Int) := by rw [show (n : Int) - 4 = (i4 : Int) by omega]; exact IntWalk.i64_in _ (by omega)
  have w5 : IntKind.i64.wrap ((n : Int) - 5) = (i5 : Int) := by rw [show (n : Int) - 5 = (i5 : Int) by omega]; exact IntWalk.i64_in _ (by omega)
  have w6 : IntKind.i64.wrap ((n : Int) - 6) = (k : Int) := by rw [show (n : Int) - 6 = (k : Int) by omega]; exact IntWalk.i64_in _ (by omega)
  have hn10 : ¬ (n : Int) < 10 := by omega
  obtain ⟨B2, hB2⟩ : ∃ B, digB [c, d] = B := ⟨_, rfl⟩
  obtain ⟨B5, hB5⟩ : ∃ B, digB [a, b] = B := ⟨_, rfl⟩
  have r2 := Kp.mk (fun w => digits_is (s := bs [c, d]) (b := B2) (by rw [bs_size]; simp) hB2 w)
  have r5 := Kp.mk (fun w => digits_is (s := bs [a, b]) (b := B5) (by rw [bs_size]; simp) hB5 w)
  rw [hB2, hB5] at h
  generalize bs l = s at *
  generalize bs [c, d] = s2 at *
  generalize bs [a, b] = s5 at *
  by_cases h3 : q = 45
  · subst h3
    by_cases h6 : p = 45
    · subst h6
      have t3 : (((45 : UInt8).toNat : Int) != 45) = false := by decide
      cases B2
      · clear h hC hk hm hn hi1 hi2 hi3 hi4 hi5 hB2 hB5
        go_enter Tryz.func30, Tryz.ntmps30
        go_wp2_with fail
        refine (r2.out _).mono ?_
        rintro e w' ⟨rfl, rfl⟩
        go_wp2_with fail
        refine bodyPost_ret (v := .tuple #[.agg #[.int .i64 0, .int .i64 0, .int .i64 0], .int .i64 5]) (by simp [results, Tryz.results30, go_sem]) rfl ?_
        exact ⟨rfl, (Below.refl w.heap.size w).alloc (Nat.le_refl _) _⟩
      · cases B5
        · clear h hC hk hm hn hi1 hi2 hi3 hi4 hi5 hB2 hB5
          go_enter Tryz.func30, Tryz.ntmps30
          go_wp2_with fail
          refine (r2.out _).mono ?_
          rintro e w' ⟨rfl, rfl⟩
          go_wp2_with fail
          refine (r5.out _).mono ?_
          rintro e w' ⟨rfl, rfl⟩
          go_wp2_with fail
          refine bodyPost_ret (v := .tuple #[.agg #[.int .i64 0, .int .i64 0, .int .i64 0], .int .i64 5]) (by simp [results, Tryz.results30, go_sem]) rfl ?_
          exact ⟨rfl, (Below.refl w.heap.size w).alloc (Nat.le_refl _) _⟩
        · exact absurd ⟨rfl, rfl, rfl, rfl⟩ h
    · have t3 : (((45 : UInt8).toNat : Int) != 45) = false := by decide
      have t6 : ((p.toNat : Int) != 45) = true := by
        rw [bne_iff_ne]; intro e; exact h6 (UInt8.toNat_inj.1 (by show p.toNat = 45; omega))
      clear h hC hk hm hn hi1 hi2 hi3 hi4 hi5 hB2 hB5 h6
      go_enter Tryz.func30, Tryz.ntmps30
      go_wp2_with fail
      refine bodyPost_ret (v := .tuple #[.agg #[.int .i64 0, .int .i64 0, .int .i64 0], .int .i64 5]) (by simp [results, Tryz.results30, go_sem]) rfl ?_
      exact ⟨rfl, (Below.refl w.heap.size w).alloc (Nat.le_refl _) _⟩
  · have t3 : ((q.toNat : Int) != 45) = true := by
      rw [bne_iff_ne]; intro e; exact h3 (UInt8.toNat_inj.1 (by show q.toNat = 45; omega))
    clear h hC hk hm hn hi1 hi2 hi3 hi4 hi5 hB2 hB5 h3
    go_enter Tryz.func30, Tryz.ntmps30
    go_wp2_with fail
    refine bodyPost_ret (v := .tuple #[.agg #[.int .i64 0, .int .i64 0, .int .i64 0], .int .i64 5]) (by simp [results, Tryz.results30, go_sem]) rfl ?_
    exact ⟨rfl, (Below.refl w.heap.size w).alloc (Nat.le_refl _) _⟩
end Go.Proofs.YtoafigehcgledaaGreatDoor
