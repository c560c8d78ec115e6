/-
  DERIVED. The law EndsOrder.
-/
import Derived.Test.YtbnlomjlapnoaaaDoorEnOrder0
import Derived.Test.YtbnlomjlapnoaaaDoorEnOrder1
namespace Go.Proofs.YtbnlomjlapnoaaaDoor
open Go.RowKit

theorem lawOrder_any {I : World → Prop} (C : EndFns I) (f d g e h i : Int) (w : World) (hI : I w) (d0 : -9223372036854775808 ≤ d) (d1 : d ≤ 9223372036854775807) (e0 : -9223372036854775808 ≤ e) (e1 : e ≤ 9223372036854775807) (i0 : -9223372036854775808 ≤ i) (i1 : i ≤ 9223372036854775807) :
    Calls Tryd.prog 3 #[.agg #[.int .i8 f, .int .i64 d], .agg #[.int .i8 g, .int .i64 e], .agg #[.int .i8 h, .int .i64 i]] w fun x w' => x = .returned (.bool true) ∧ Below w.heap.size w w' := by
  have tr := cmpE_trans f d g e h i
  rcases cmpE_one f d g e with hn | hn | hn
  · have hq : cmpE g e h i ≤ 0 → cmpE f d h i ≤ 0 := tr (by omega)
    by_cases hf : f = g
    · subst hf
      have hd : ¬ d = e := fun x => by have := (cmpE_zero f d f e).2 ⟨rfl, x⟩; omega
      by_cases hp : cmpE f e h i ≤ 0
      · exact lawOrder_msl C f d e h i w hI d0 d1 e0 e1 i0 i1 hn hd hp (hq hp)
      · exact lawOrder_msg C f d e h i w hI d0 d1 e0 e1 i0 i1 hn hd hp
    · by_cases hp : cmpE g e h i ≤ 0
      · exact lawOrder_mol C f d g e h i w hI d0 d1 e0 e1 i0 i1 hn hf hp (hq hp)
      · exact lawOrder_mog C f d g e h i w hI d0 d1 e0 e1 i0 i1 hn hf hp
  · obtain ⟨rfl, rfl⟩ := (cmpE_zero f d g e).1 hn
    by_cases hp : cmpE f d h i ≤ 0
    · exact lawOrder_zsl C f d h i w hI d0 d1 i0 i1 hn hp
    · exact lawOrder_zsg C f d h i w hI d0 d1 i0 i1 hn hp
  · by_cases hf : f = g
    · subst hf
      exact lawOrder_ps C f d e h i w hI d0 d1 e0 e1 hn (fun x => by have := (cmpE_zero f d f e).2 ⟨rfl, x⟩; omega)
    · exact lawOrder_po C f d g e h i w hI d0 d1 e0 e1 hn hf
end Go.Proofs.YtbnlomjlapnoaaaDoor
