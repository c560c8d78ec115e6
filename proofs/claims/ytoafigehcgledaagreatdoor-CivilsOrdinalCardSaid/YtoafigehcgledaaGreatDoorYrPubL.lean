/-
  DERIVED. CONTRACT of package years: Len.
-/
import Derived.Test.YtoafigehcgledaaGreatDoorYrPubA
namespace Go.Proofs.YtoafigehcgledaaGreatDoor
open Go.RowKit
set_option maxRecDepth 100000

/-- Start, Len, End of what is no year -/
theorem len_out {y : Int} (hy : isY y = false) (w : World) : Calls Tryz.prog 41 #[.int .i64 y] w fun e w' => e = .returned (.tuple #[.int .i64 0, .int .i64 6]) ∧ w = w' := by
  have r1 := Kp.mk (fun w => check_out hy w)
  clear hy
  go_enter Tryz.func41, Tryz.ntmps41
  go_wp2_with fail
  refine (r1.out _).mono ?_
  rintro e w' ⟨rfl, rfl⟩
  go_wp2_with fail
  go_ret2
  exact ⟨rfl, rfl⟩
theorem len_pub {y v : Int} (hy : isY y = true) (hv : lenI y = v) (w : World) (hL : Laid w) :
    Calls Tryz.prog 41 #[.int .i64 y] w fun e w' => e = .returned (.tuple #[.int .i64 v, .int .i64 0]) ∧ Below w.heap.size w w' := by
  have hyy := (isY_iff y).1 hy
  obtain ⟨s, hs⟩ : ∃ s, Sd (y + 1) = s := ⟨_, rfl⟩
  obtain ⟨t, ht⟩ : ∃ t, Sd y = t := ⟨_, rfl⟩
  have hsu := Sd_succ y
  have htwo := lenI_two y
  rw [hs, ht, hv] at hsu
  rw [hv] at htwo
  have w1 : IntKind.i64.wrap (y + 1) = y + 1 := IntWalk.i64_in _ (by omega)
  have w2 : IntKind.i64.wrap (s - t) = v := by rw [show s - t = v by omega]; exact IntWalk.i64_in _ (by omega)
  have r1 := Kp.mk (fun w => check_in hy w)
  have r2 := Kp.mk (fun w => start_is (y := y + 1) (by omega) (by omega) hs w)
  have r3 := Kp.mk (fun w => start_is (y := y) (by omega) (by omega) ht w)
  have HL := Kp.mk hL
  clear hy hyy hv hL hs ht hsu htwo
  go_enter Tryz.func41, Tryz.ntmps41
  go_wp2_with fail
  refine (r1.out _).mono ?_
  rintro e w' ⟨rfl, rfl⟩
  go_wp2_with fail
  refine (r2.out _ (HL.out)).mono ?_
  rintro e w' ⟨rfl, hb⟩
  have HB := Kp.mk hb
  clear hb
  go_wp2_with fail
  refine (r3.out _ (HL.out.below HB.out)).mono ?_
  rintro e w' ⟨rfl, hb⟩
  have HB := Kp.mk (HB.out.trans (hb.mono HB.out.size))
  clear hb
  go_wp2_with fail
  go_ret2
  exact ⟨rfl, HB.out⟩
end Go.Proofs.YtoafigehcgledaaGreatDoor
