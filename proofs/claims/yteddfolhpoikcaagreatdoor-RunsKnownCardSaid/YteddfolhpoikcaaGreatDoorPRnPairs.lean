/-
 DERIVED. The law RunsPairs, given the contracts of package runs. Written by mkrn2.py.
-/
import Derived.Test.YteddfolhpoikcaaGreatDoorPRnPairsA
import Derived.Test.YteddfolhpoikcaaGreatDoorPRnPairsB
import Derived.Test.YteddfolhpoikcaaGreatDoorPRnPairsC
import Derived.Test.YteddfolhpoikcaaGreatDoorPRnPairsD
import Derived.Test.YteddfolhpoikcaaGreatDoorPRnPairsE
namespace Go.Proofs.YteddfolhpoikcaaGreatDoor
open Go.RowKit
set_option maxRecDepth 100000

theorem lawPairs_any {I : World → Prop} (C : RunFns I) (a b : Rn) (x : Int) (w : World) (hI : I w) (ha : a.In) (hb : b.In) (x0 : -9223372036854775808 ≤ x) (x1 : x ≤ 9223372036854775807) :
 Calls Tryz.prog 3 #[.agg #[.int .i8 a.f, .int .i64 a.d, .int .i8 a.g, .int .i64 a.e], .agg #[.int .i8 b.f, .int .i64 b.d, .int .i8 b.g, .int .i64 b.e], .int .i64 x] w fun e w' => e = .returned (.bool true) ∧ Below w.heap.size w w' := by
 by_cases h1 : chkR a = 0
 ·by_cases h2 : chkR b = 0
  ·cases ht : touchN a b
   ·have hm : meetN a b = false := by
     unfold touchN at ht
     rw [decide_eq_false_iff_not] at ht
     unfold meetN
     rw [decide_eq_false_iff_not]
     omega
    cases hh : hasN a x
    ·exact lawPairs_nnf C a b x w hI ha hb x0 x1 h1 h2 ht hm hh
    ·exact lawPairs_nnt C a b x w hI ha hb x0 x1 h1 h2 ht hm hh
   ·cases hm : meetN a b
    ·cases hh : hasN a x
     ·exact lawPairs_tnf C a b x w hI ha hb x0 x1 h1 h2 ht hm hh
     ·exact lawPairs_tnt C a b x w hI ha hb x0 x1 h1 h2 ht hm hh
    ·cases hh : hasN a x
     ·exact lawPairs_tmf C a b x w hI ha hb x0 x1 h1 h2 ht hm hh
     ·exact lawPairs_tmt C a b x w hI ha hb x0 x1 h1 h2 ht hm hh
  ·cases hh : hasN a x
   ·exact lawPairs_b2f C a b x w hI ha hb x0 x1 h1 rfl h2 hh
   ·exact lawPairs_b2t C a b x w hI ha hb x0 x1 h1 rfl h2 hh
 ·exact lawPairs_b1 C a b x w hI ha hb x0 x1 rfl rfl h1
end Go.Proofs.YteddfolhpoikcaaGreatDoor
