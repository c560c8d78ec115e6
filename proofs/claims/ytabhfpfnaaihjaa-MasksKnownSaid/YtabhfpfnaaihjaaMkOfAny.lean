/-
  DERIVED. CONTRACT of (M).Of, whatever the row: a mask as plain data gives a mask.
-/
import Derived.Test.YtabhfpfnaaihjaaMkOf
namespace Go.Proofs.Ytabhfpfnaaihjaa
open Go.RowKit
set_option maxRecDepth 100000 in
theorem of_none {p : Option Addr} {cap : Nat} (w : World) :
    Calls Try.prog 8 #[.agg #[.slice p 0 cap]] w fun e w' => ∃ s, Mk s ∧ e = .returned (.string s) ∧ Below w.heap.size w w' := by
  go_enter Try.func8, Try.ntmps8
  go_wp2_with fail
  go_loopw [3, 4] (fun o i wr => o = .string ⟨#[]⟩ ∧ i = .int .i64 0 ∧ Kp (Below (w.heap.size + 1) (w.alloc (.cells #[.slice p 0 cap] 24)) wr)) (fun _ i _ => 18 - (intOf i).toNat)
  case atStart => exact ⟨rfl, rfl, Kp.mk (Below.refl _ _)⟩
  case round =>
    obtain ⟨rfl, rfl, HV⟩ := hrel
    have r0 : wr.cell? ⟨w.heap.size, 0, none⟩ = some (.slice p 0 cap) := by
      rw [HV.out.cell (p := ⟨w.heap.size, 0, none⟩) (by simp)]; simp [go_sem]
    have HBl := Kp.mk (((Below.refl w.heap.size w).alloc (Nat.le_refl _) _).trans (HV.out.mono (by simp)))
    go_wp2_with fail
    go_ret
    exact ⟨_, mk_x, rfl, HBl.out⟩
/-- every mask as plain data gives a mask; the memory that was there stays -/
theorem of_any {p : Option Addr} {len cap : Nat} {z : Nat → Int} (w : World) (hl : (len : Int) ≤ 9223372036854775807) (hr : RowU8 w p len z) :
    Calls Try.prog 8 #[.agg #[.slice p len cap]] w fun e w' => ∃ s, Mk s ∧ e = .returned (.string s) ∧ Below w.heap.size w w' := by
  rcases hr with rfl | ⟨b, off, rfl, hb, hz⟩
  · exact of_none w
  · exact of_some w hl hb hz
end Go.Proofs.Ytabhfpfnaaihjaa
