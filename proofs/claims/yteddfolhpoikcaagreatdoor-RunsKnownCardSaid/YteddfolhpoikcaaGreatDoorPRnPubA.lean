/-
 DERIVED. Package runs, as the structure of contracts that the statement on runs as sets of days needs.
-/
import Derived.Test.YteddfolhpoikcaaGreatDoorPRnDvQ
import Derived.Test.YteddfolhpoikcaaGreatDoorPRnDvW
import Derived.Test.YteddfolhpoikcaaGreatDoorPRnDvE
import Derived.Test.YteddfolhpoikcaaGreatDoorPRnLives
namespace Go.Proofs.YteddfolhpoikcaaGreatDoor
open Go.RowKit

theorem runCoreA : RunCoreA LaidRn where
 keep h hb := h.below hb
 check w hL ha hc := dRChk_is ha hc w hL.en
 has w hL ha x0 x1 hv := dHas_is ha x0 x1 hv w hL.en
 touch w hL ha hb hv := dTouch_is ha hb hv w hL.en
 join w hL ha hb ht hv := dJoin_is ha hb ht hv w hL.en
 join_no w hL ha hb ht := dJoin_no ha hb ht w hL.en
 comm w hL ha hb hm hv := dComm_is ha hb hm hv w hL.en
 comm_no w hL ha hb hm := dComm_no ha hb hm w hL.en
 within w hL ha hb hv := dIn_is ha hb hv w hL.en
 len_ok w hL ha hc hn he := dLen_ok ha hc hn he w hL.en
 len_bad w hL ha hc h0 := dLen_bad ha hc h0 w hL.en
 shift_ok w hL ha hc k0 k1 hm := dShift_ok ha hc k0 k1 hm w hL.en
 shift_bad w hL ha hc h0 _ _ := dShift_bad ha hc h0 w hL.en
 parse w hL hl h := dParse_is hl h w hL
theorem runFnsA : RunFnsA LaidRn := { runCoreA with lives := fun w hI => lives_of runCoreA w hI }
end Go.Proofs.YteddfolhpoikcaaGreatDoor
