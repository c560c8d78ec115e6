/-
 DERIVED. Package ends (the developers' functions), as its structure of contracts.
-/
import Derived.Test.YteddfolhpoikcaaGreatDoorPEnDevP
import Derived.Test.YteddfolhpoikcaaGreatDoorPEnCoreS
namespace Go.Proofs.YteddfolhpoikcaaGreatDoor
open Go.RowKit

theorem endCoreN : EndCoreN LaidEn where
 keep h hb := h.below hb
 check w hL _ _ hc := dChk_is hc w hL
 of w _ _ _ := dOf_is _ w
 cmp w _ _ _ _ _ hv := dCmp_is hv w
 next w hL d0 d1 h := dNext_is h d0 d1 w hL
 min_le {f d g e} w _ _ _ _ _ h := by
  rcases cmpE_one f d g e with h1 | h1 | h1
  ·exact dMin_lt h1 w
  ·obtain ⟨rfl, rfl⟩ := (cmpE_zero f d g e).1 h1
   exact dMin_ge h1 (by decide) w
  ·omega
 min_gt {f d g e} w _ _ _ _ _ h := dMin_ge rfl (by omega) w
 max_le {f d g e} w _ _ _ _ _ h := dMax_le rfl (by omega) w
 max_gt {f d g e} w _ _ _ _ _ h := by
  rcases cmpE_one f d g e with h1 | h1 | h1
  ·omega
  ·omega
  ·exact dMax_gt h1 w
 text_in w hL d0 d1 hc := dText_in d0 d1 hc w hL
 text_out w hL _ _ hc h0 := dText_out hc h0 w hL
 parse w hL hl h := dPar_is h (by omega) w hL
end Go.Proofs.YteddfolhpoikcaaGreatDoor
