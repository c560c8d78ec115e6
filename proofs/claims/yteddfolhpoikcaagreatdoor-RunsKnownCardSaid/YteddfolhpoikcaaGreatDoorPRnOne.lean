/-
 DERIVED. The law RunsOne, given the contracts of package runs. Written by mkrn3.py.
-/
import Derived.Test.YteddfolhpoikcaaGreatDoorPRnOneA
import Derived.Test.YteddfolhpoikcaaGreatDoorPRnOneB
namespace Go.Proofs.YteddfolhpoikcaaGreatDoor
open Go.RowKit
set_option maxRecDepth 100000

theorem lawOne_any {I : World → Prop} (C : RunFns I) (r : Rn) (k x y : Int) (w : World) (hI : I w) (hr : r.In) (k0 : -9223372036854775808 ≤ k) (k1 : k ≤ 9223372036854775807) (x0 : -9223372036854775808 ≤ x) (x1 : x ≤ 9223372036854775807) (y0 : -9223372036854775808 ≤ y) (y1 : y ≤ 9223372036854775807) :
 Calls Tryz.prog 4 #[.agg #[.int .i8 r.f, .int .i64 r.d, .int .i8 r.g, .int .i64 r.e], .int .i64 k, .agg #[.int .i64 x, .int .i64 y]] w fun e w' => e = .returned (.bool true) ∧ Below w.heap.size w w' := by
 obtain ⟨s, m, hm⟩ := moveR_is r k
 by_cases hz : x ≤ y
 ·by_cases h1 : chkR r = 0
  ·by_cases h0 : m = 0
   ·subst h0
    by_cases hk : k = -9223372036854775808
    ·exact lawOne_l_least C r k x y w hI hr k0 k1 x0 x1 y0 y1 hz h1 hm hk
    ·exact lawOne_l_full C r k x y w hI hr k0 k1 x0 x1 y0 y1 hz h1 hm hk
   ·exact lawOne_l_over C r k x y w hI hr k0 k1 x0 x1 y0 y1 hz h1 hm h0
  ·exact lawOne_l_bad C r k x y w hI hr k0 k1 x0 x1 y0 y1 hz rfl h1
 ·by_cases h1 : chkR r = 0
  ·by_cases h0 : m = 0
   ·subst h0
    by_cases hk : k = -9223372036854775808
    ·exact lawOne_g_least C r k x y w hI hr k0 k1 x0 x1 y0 y1 hz h1 hm hk
    ·exact lawOne_g_full C r k x y w hI hr k0 k1 x0 x1 y0 y1 hz h1 hm hk
   ·exact lawOne_g_over C r k x y w hI hr k0 k1 x0 x1 y0 y1 hz h1 hm h0
  ·exact lawOne_g_bad C r k x y w hI hr k0 k1 x0 x1 y0 y1 hz rfl h1
end Go.Proofs.YteddfolhpoikcaaGreatDoor
