/-
 DERIVED. ARGUMENTS OF TYPE api.End, BY VALUE, OPENED: their numbers.
 DERIVED. ARGUMENTS OF TYPE api.Run and [2]int64, BY VALUE, OPENED: their numbers.
-/
import Derived.Test.YteddfolhpoikcaaGreatDoorRows
import Derived.Test.YteddfolhpoikcaaGreatDoorPPa
import Derived.ProofKit
import Derived.OpenShut
import Derived.Carry
import Derived.Lay
import Derived.Lib.LaidTab
import Derived.Lib.SmallJoins
import Derived.Deep.Strs
import Derived.LaidMore
import Derived.SevenTiedAt
import Derived.Stop.Joined
namespace Go.Proofs.YteddfolhpoikcaaGreatDoor
open Go.ChangeShapes Go.WideShapes Go.ChangeAt Go.RowKit
set_option maxRecDepth 100000
theorem laidOutEn : laidOutB Tryz.prog = true := by kernel_rfl
theorem cells_en64 : Tryz.prog.cellsOf 2 = 1 := by kernel_rfl
theorem cells_en8 : Tryz.prog.cellsOf 22 = 1 := by kernel_rfl
theorem cells_End : Tryz.prog.cellsOf 24 = 2 := by kernel_rfl
theorem i64_wfEn {n : Int} (h : (Lit.int .i64 n).wf = true) : -9223372036854775808 ≤ n ∧ n ≤ 9223372036854775807 := by
 simpa [Lit.wf, IntKind.min, IntKind.max, IntKind.signed, IntKind.bits] using h
theorem end_of {H : Type} {enc : TypeId × Value → H} {w : World} {base : Nat} {sp : Nat → Bool} {held : Bool} {fuel : Nat} {c0 c1 : Value} {y : DataW H × List MemPlace}
 (h : DataW.trod enc Tryz.prog w base sp held fuel 24 [c0, c1] = some y) : ∃ f d, c0 = .int .i8 f ∧ c1 = .int .i64 d ∧ (-9223372036854775808 ≤ d ∧ d ≤ 9223372036854775807) := by
 obtain ⟨y0, y1, n, _, _, h0, h1⟩ := trod_struct2 Tryz.underlying24 h
 simp only [cells_en64, cells_en8] at h0 h1
 obtain ⟨a, e0, _, _⟩ := DataW.trod_int Tryz.underlying22 h0
 obtain ⟨b, e1, _, w1⟩ := DataW.trod_int Tryz.underlying2 h1
 simp at e0 e1
 exact ⟨a, b, e0, e1, i64_wfEn w1⟩
end Go.Proofs.YteddfolhpoikcaaGreatDoor
namespace Go.Proofs.YteddfolhpoikcaaGreatDoor
open Go.ChangeShapes Go.WideShapes Go.ChangeAt Go.RowKit
set_option maxRecDepth 100000
theorem cells_Run : Tryz.prog.cellsOf 26 = 4 := by kernel_rfl
theorem open_Run {H : Type} {enc : TypeId × Value → H} {W : World} {base : Nat} {v : Value} {d : DataW H} {p : List MemPlace}
 (hv : Value.okWide Tryz.prog W .any base 26 v) (h : DataW.Trod enc Tryz.prog W 0 (fun _ => true) true 26 v d p) :
 ∃ f d g e, v = .agg #[.int .i8 f, .int .i64 d, .int .i8 g, .int .i64 e] ∧ (-9223372036854775808 ≤ d ∧ d ≤ 9223372036854775807) ∧ (-9223372036854775808 ≤ e ∧ e ≤ 9223372036854775807) := by
 obtain ⟨cs, rfl, hsz⟩ := okWide_struct Tryz.underlying26 hv
 rw [cells_Run] at hsz
 obtain ⟨c0, c1, c2, c3, rfl⟩ : ∃ c0 c1 c2 c3, cs = #[c0, c1, c2, c3] := by
  obtain ⟨l⟩ := cs
  match l, hsz with
  | [c0, c1, c2, c3], _ => exact ⟨c0, c1, c2, c3, rfl⟩
 obtain ⟨fuel, hf⟩ := h
 obtain ⟨y0, y1, n, _, _, h0, h1⟩ := trod_struct2 Tryz.underlying26 hf
 simp only [cells_End] at h0 h1
 obtain ⟨f, d, rfl, rfl, hb⟩ := end_of (c0 := c0) (c1 := c1) h0
 obtain ⟨g, e, rfl, rfl, hb2⟩ := end_of (c0 := c2) (c1 := c3) h1
 exact ⟨f, d, g, e, rfl, hb, hb2⟩
theorem laidOut : laidOutB Tryz.prog = true := laidOutEn
theorem cells_A2 : Tryz.prog.cellsOf 39 = 2 := by kernel_rfl
theorem okWide_array {P : Program} {w : World} {base : Nat} {t : TypeId} {v : Value} {n : Nat} {e : TypeId} (ht : P.underlying t = some (.array n e)) (h : Value.okWide P w .any base t v) : ∃ cs, v = .agg cs ∧ cs.size = P.cellsOf t := by
 simp only [Value.okWide, ht] at h
 obtain ⟨cs, h1, h2, _⟩ := h
 exact ⟨cs, h1, h2⟩
theorem open_A2 {H : Type} {enc : TypeId × Value → H} {W : World} {base : Nat} {v : Value} {d : DataW H} {p : List MemPlace}
 (hv : Value.okWide Tryz.prog W .any base 39 v) (h : DataW.Trod enc Tryz.prog W 0 (fun _ => true) true 39 v d p) :
 ∃ k l, v = .agg #[.int .i64 k, .int .i64 l] ∧ (-9223372036854775808 ≤ k ∧ k ≤ 9223372036854775807) ∧ (-9223372036854775808 ≤ l ∧ l ≤ 9223372036854775807) := by
 obtain ⟨cs, rfl, hsz⟩ := okWide_array Tryz.underlying39 hv
 rw [cells_A2] at hsz
 obtain ⟨c0, c1, rfl⟩ : ∃ c0 c1, cs = #[c0, c1] := by
  obtain ⟨l⟩ := cs
  match l, hsz with
  | [c0, c1], _ => exact ⟨c0, c1, rfl⟩
 obtain ⟨fuel, hf⟩ := h
 obtain ⟨xs, m, _, _, _, hlen, hx⟩ := DataW.trod_array Tryz.underlying39 hf
 obtain ⟨x0, x1, rfl⟩ : ∃ x0 x1, xs = [x0, x1] := by
  match xs, hlen with
  | [x0, x1], _ => exact ⟨x0, x1, rfl⟩
 have h0 := hx 0 (by decide)
 have h1 := hx 1 (by decide)
 rw [cells_en64] at h0 h1
 obtain ⟨k, e0, _, w0⟩ := DataW.trod_int Tryz.underlying2 h0
 obtain ⟨l, e1, _, w1⟩ := DataW.trod_int Tryz.underlying2 h1
 simp [Value.cells] at e0 e1
 subst e0 e1
 exact ⟨k, l, rfl, i64_wfEn w0, i64_wfEn w1⟩
end Go.Proofs.YteddfolhpoikcaaGreatDoor
