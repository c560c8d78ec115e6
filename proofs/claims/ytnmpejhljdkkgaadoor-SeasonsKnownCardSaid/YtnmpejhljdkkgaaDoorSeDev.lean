/-
  DERIVED. CONTRACTS of package seasons: the table of codes, Check, Months, Run, Of.
-/
import Derived.Test.YtnmpejhljdkkgaaDoorSeCore
import Derived.Test.YtnmpejhljdkkgaaDoorMoPubE
namespace Go.Proofs.YtnmpejhljdkkgaaDoor
open Go.RowKit
set_option maxRecDepth 100000

/-- the tables as every world of a call has them -/
structure LaidSe (w : World) : Prop where
  mo : LaidMo w
  size : 0 < w.heap.size
  from_ : ∀ k : Nat, k < 21 → w.cell? ⟨0, k * 2, none⟩ = some (.int .i64 (fromI ((k : Int) + 21)))
  many : ∀ k : Nat, k < 21 → w.cell? ⟨0, k * 2 + 1, none⟩ = some (.int .i64 (manyI ((k : Int) + 21)))
theorem LaidSe.below {w w' : World} (h : LaidSe w) (hb : Below w.heap.size w w') : LaidSe w' :=
  ⟨h.mo.below hb, by have := hb.size; have := h.size; omega,
   fun k hk => by rw [hb.cell (p := ⟨0, k * 2, none⟩) h.size]; exact h.from_ k hk,
   fun k hk => by rw [hb.cell (p := ⟨0, k * 2 + 1, none⟩) h.size]; exact h.many k hk⟩

theorem scheck_is {c e : Int} (c0 : -9223372036854775808 ≤ c) (c1 : c ≤ 9223372036854775807) (he : chkS c = e) (w : World) : Calls Tryd.prog 9 #[.int .i64 c] w fun x w' => x = .returned (.int .i64 e) ∧ w = w' := by
  unfold chkS at he
  by_cases h1 : c < 21
  · rw [if_pos ((many_zero c).2 (by omega))] at he
    subst he
    clear c0 c1
    go_enter Tryd.func9, Tryd.ntmps9
    go_wp2_with fail
    go_ret
    exact ⟨rfl, rfl⟩
  · obtain ⟨k, hk⟩ : ∃ k, c - 21 = k := ⟨_, rfl⟩
    have w1 : IntKind.i64.wrap (c - 21) = k := by rw [hk]; exact IntWalk.i64_in _ (by omega)
    by_cases h2 : 41 < c
    · rw [if_pos ((many_zero c).2 (by omega))] at he
      subst he
      have t2 : 21 ≤ k := by omega
      clear c0 c1 hk
      go_enter Tryd.func9, Tryd.ntmps9
      go_wp2_with fail
      go_ret
      exact ⟨rfl, rfl⟩
    · rw [if_neg (fun h => absurd ((many_zero c).1 h) (by omega))] at he
      subst he
      have t2 : ¬ 21 ≤ k := by omega
      clear c0 c1 hk
      go_enter Tryd.func9, Tryd.ntmps9
      go_wp2_with fail
      go_ret
      exact ⟨rfl, rfl⟩
set_option maxHeartbeats 1000000 in
theorem smonths_is {c f m e : Int} (c0 : -9223372036854775808 ≤ c) (c1 : c ≤ 9223372036854775807) (hf : fromI c = f) (hm : manyI c = m) (he : chkS c = e) (w : World) (hL : LaidSe w) :
    Calls Tryd.prog 7 #[.int .i64 c] w fun x w' => x = .returned (.tuple #[.int .i64 f, .int .i64 m, .int .i64 e]) ∧ Below w.heap.size w w' := by
  have r1 := Kp.mk (fun w => scheck_is c0 c1 he w)
  have HB := Kp.mk (Below.refl w.heap.size w)
  unfold chkS at he
  by_cases h0 : manyI c = 0
  · rw [if_pos h0] at he
    subst he
    obtain rfl : 0 = f := by rw [← hf, from_zero h0]
    obtain rfl : 0 = m := by rw [← hm, h0]
    clear c0 c1 hf hm h0 hL
    go_enter Tryd.func7, Tryd.ntmps7
    go_wp2_with fail
    refine (r1.out _).mono ?_
    rintro e w' ⟨rfl, rfl⟩
    go_wp2_with fail
    go_ret3
    exact ⟨rfl, HB.out⟩
  · rw [if_neg h0] at he
    subst he
    have hin : 21 ≤ c ∧ c ≤ 41 := Decidable.byContradiction fun h => h0 ((many_zero c).2 h)
    obtain ⟨k, hk⟩ : ∃ k : Nat, (k : Int) + 21 = c := ⟨(c - 21).toNat, by omega⟩
    have k1 := hL.from_ k (by omega)
    have k2 := hL.many k (by omega)
    rw [hk, hf] at k1
    rw [hk, hm] at k2
    have w1 : IntKind.i64.wrap (c - 21) = (k : Int) := by rw [show c - 21 = (k : Int) by omega]; exact IntWalk.i64_in _ (by omega)
    have t1 : k < 21 := by omega
    clear c0 c1 hf hm h0 hL hin hk
    go_enter Tryd.func7, Tryd.ntmps7
    go_wp2_with fail
    refine (r1.out _).mono ?_
    rintro e w' ⟨rfl, rfl⟩
    go_upto_region 5 with fail
    have HB := Kp.mk (HB.out.alloc HB.out.size (.cells #[.int .i64 f, .int .i64 m] 54))
    go_quiet (fail)
    generalize hwq : World.drewN _ _ = wq
    have HB := Kp.mk (show Below w.heap.size w wq by rw [← hwq]; exact below_drewN HB.out _)
    clear hwq
    go_wp2_with fail
    go_ret3
    exact ⟨rfl, HB.out⟩
end Go.Proofs.YtnmpejhljdkkgaaDoor
