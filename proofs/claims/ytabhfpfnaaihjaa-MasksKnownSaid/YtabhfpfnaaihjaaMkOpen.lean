/-
  DERIVED. AN ARGUMENT OF TYPE circalaw03.M, BY VALUE, OPENED: its bytes; the frame's shared facts.
-/
import Derived.Test.YtabhfpfnaaihjaaRows
import Derived.Test.YtabhfpfnaaihjaaMkOf
import Derived.ProofKit
import Derived.OpenShut
import Derived.Carry
import Derived.Lib.SmallJoins
import Derived.LaidMore
import Derived.SevenTiedAt
import Derived.Stop.Joined
namespace Go.Proofs.Ytabhfpfnaaihjaa
open Go.ChangeShapes Go.WideShapes Go.ChangeAt Go.RowKit
theorem own : ownKnob Try.prog.godebug = none := by kernel_rfl
theorem laidOut : laidOutB Try.prog = true := by kernel_rfl
theorem cells_u8 : Try.prog.cellsOf 5 = 1 := by kernel_rfl
theorem cells_bytes : Try.prog.cellsOf 22 = 1 := by kernel_rfl
theorem cells_M : Try.prog.cellsOf 24 = 1 := by kernel_rfl
theorem array1 {α : Type} {cs : Array α} (h : cs.size = 1) : ∃ c0, cs = #[c0] := by
  obtain ⟨l⟩ := cs
  match l, h with
  | [c0], _ => exact ⟨c0, rfl⟩
theorem open_M {H : Type} {enc : TypeId × Value → H} {W : World} {base : Nat} {v : Value} {d : DataW H} {p : List MemPlace}
    (hv : Value.okWide Try.prog W .any base 24 v) (h : DataW.Trod enc Try.prog W 0 (fun _ => true) true 24 v d p) (hlt : ∀ x ∈ p, x.block < W.heap.size) :
    ∃ p' len cap z, v = .agg #[.slice p' len cap] ∧ (len : Int) ≤ 9223372036854775807 ∧ RowU8 W p' len z := by
  obtain ⟨cs, rfl, hsz⟩ := okWide_struct Try.underlying24 hv
  obtain ⟨c0, rfl⟩ := array1 (hsz.trans cells_M)
  obtain ⟨fuel, hf⟩ := h
  obtain ⟨y0, n, hx, _, h0⟩ := trod_struct1 Try.underlying24 hf
  have h0' : DataW.trod enc Try.prog W 0 (fun _ => true) true n 22 [c0] = some y0 := by
    simpa [Value.cells, cells_bytes] using h0
  rcases open_ints Try.underlying22 Try.underlying5 cells_u8 h0' with ⟨hcs, hx2⟩ | ⟨a, len, cap, zs, hcs, _, hl, hm, hz, hx2, hcell, hwz⟩
  · simp only [List.cons.injEq, and_true] at hcs
    subst hcs
    exact ⟨none, 0, 0, fun _ => 0, rfl, by decide, .inl rfl⟩
  · simp only [List.cons.injEq, and_true] at hcs
    subst hcs
    simp only [if_true] at hz
    unfold maxLen at hm
    refine ⟨some a, len, cap, fun i => zs.getD i 0, rfl, by omega, ?_⟩
    by_cases hl0 : len = 0
    · exact .inl hl0
    · right
      obtain ⟨b, off, spot⟩ := a
      have hspot : spot = none := by
        have := World.cell?_spot (hcell 0 (by omega))
        simpa [Addr.add] using this
      subst hspot
      refine ⟨b, off, rfl, ?_, fun k hk => ⟨?_, ?_⟩⟩
      · refine hlt (.cell b off) ?_
        simp only [Prod.mk.injEq] at hx
        rw [hx.2, hx2]
        exact MemPlace.mem_row.2 ⟨0, by omega, by simp⟩
      · have := hcell k (by omega)
        by_cases hk0 : k = 0
        · subst hk0
          simpa [Addr.add] using this
        · simpa [Addr.add, hk0] using this
      · have hk2 : k < zs.length := by omega
        have := hwz (zs.getD k 0) (by rw [List.getD_eq_getElem?_getD, List.getElem?_eq_getElem hk2]; exact List.getElem_mem hk2)
        simp [Lit.wf, IntKind.min, IntKind.max, IntKind.signed, IntKind.bits] at this
        show 0 ≤ zs.getD k 0 ∧ zs.getD k 0 < 256
        rw [List.getD_eq_getElem?_getD]
        omega
end Go.Proofs.Ytabhfpfnaaihjaa
