/-
 DERIVED. CONTRACTS of the reference of layer 10 (runsets): Without, Complement. Written by mkrswo.py.
 DERIVED. CONTRACTS of the reference of layer 10 (runsets): Common. Written by mkrscom.py.
-/
import Derived.Test.YtndjcmclmhoigaaGreatDoorPA6
import Derived.Test.YtndjcmclmhoigaaGreatDoorPRsRefL
namespace Go.Proofs.YtndjcmclmhoigaaGreatDoor
open Go.RowKit
set_option maxRecDepth 100000

variable {w W W' : World} {a b : Option Addr} {l m : List Rn}
/-- from -infinity to infinity -/
def wholeR : Rn := ⟨-1, 0, 1, 0⟩
theorem whole_ok : wholeR.Ok := { d0 := by decide, d1 := by decide, e0 := by decide, e1 := by decide, lof := .inr ⟨rfl, rfl⟩, hif := .inr ⟨rfl, rfl⟩, le := fun h => by revert h; decide }
theorem whole_chk : chkRs [wholeR] = 0 := (chkRs_zero (fun r hr => by rw [List.mem_singleton.1 hr]; exact whole_ok.toIn)).2 ⟨by simp, rsc_one whole_ok⟩
theorem whole_both (l : List Rn) : bothRs [wholeR] l = chkRs l := by unfold bothRs; rw [if_pos whole_chk]
theorem whole_in : ∀ r, r ∈ [wholeR] → r.In := fun r hr => by rw [List.mem_singleton.1 hr]; exact whole_ok.toIn
theorem whole_has {x : Int} (h0 : -18446744073709551616 ≤ x) (h1 : x ≤ 18446744073709551616) : wholeR.has x := ⟨h0, h1⟩
theorem Lr.from {u W : World} (h : Lr u a l W) (hb : Below w.heap.size w u) : Lr w a l W := ⟨hb.trans (h.below.mono hb.size), h.at4⟩
end Go.Proofs.YtndjcmclmhoigaaGreatDoor
namespace Go.Proofs.YtndjcmclmhoigaaGreatDoor
open Go.RowKit
set_option maxRecDepth 100000

variable {w W W' : World} {a b : Option Addr} {l m : List Rn}
end Go.Proofs.YtndjcmclmhoigaaGreatDoor
