/-
  DERIVED. The law EndsNext. Written by mken3.py.
-/
import Derived.Test.YtbnlomjlapnoaaaDoorEnNextA
import Derived.Test.YtbnlomjlapnoaaaDoorEnNextB
namespace Go.Proofs.YtbnlomjlapnoaaaDoor
open Go.RowKit

theorem lawNext_any {I : World → Prop} (C : EndFns I) (f d g e : Int) (w : World) (hI : I w) (d0 : -9223372036854775808 ≤ d) (d1 : d ≤ 9223372036854775807) (e0 : -9223372036854775808 ≤ e) (e1 : e ≤ 9223372036854775807) :
    Calls Tryd.prog 4 #[.agg #[.int .i8 f, .int .i64 d], .agg #[.int .i8 g, .int .i64 e]] w fun x w' => x = .returned (.bool true) ∧ Below w.heap.size w w' := by
  obtain ⟨a, b, c, hu⟩ := step_is true f d
  obtain ⟨p, q, s, hd⟩ := step_is false f d
  by_cases h : f = 0
  · by_cases hm : d = 9223372036854775807
    · exact lawNext_over C f d g e w hI d0 d1 e0 e1 hu hd h (by have := (hu.over h hm).2.2; omega)
    · subst h
      by_cases hc : 0 ≤ cmpE 0 d g e
      · exact lawNext_ge C d g e w hI d0 d1 e0 e1 hm hd hc
      · exact lawNext_lt C d g e w hI d0 d1 e0 e1 hm hd hc
  · exact lawNext_inf C f d g e w hI d0 d1 e0 e1 hu hd h
end Go.Proofs.YtbnlomjlapnoaaaDoor
