/-
 DERIVED. A RUN SET AS PLAIN DATA (circalaw10.S), AS AN ARGUMENT BY VALUE, OPENED: its numbers, where its pairs of bytes lie.
-/
import Derived.Test.YtndjcmclmhoigaaGreatDoorPD1
import Derived.Test.YtndjcmclmhoigaaGreatDoorPD2
import Derived.Lib.SmallJoins
import Derived.Deep.Strs
namespace Go.Proofs.YtndjcmclmhoigaaGreatDoor
open Go.ChangeShapes Go.WideShapes Go.ChangeAt Go.RowKit
set_option maxRecDepth 100000

theorem cells_u8S : Tryz.prog.cellsOf 5 = 1 := by kernel_rfl
theorem cells_i16S : Tryz.prog.cellsOf 83 = 1 := by kernel_rfl
theorem cells_B2 : Tryz.prog.cellsOf 149 = 2 := by kernel_rfl
theorem cells_LB2 : Tryz.prog.cellsOf 84 = 1 := by kernel_rfl
theorem cells_S : Tryz.prog.cellsOf 86 = 3 := by kernel_rfl
theorem u8_wfS {n : Int} (h : (Lit.int .u8 n).wf = true) : 0 ≤ n ∧ n ≤ 255 := by
 simpa [Lit.wf, IntKind.min, IntKind.max, IntKind.signed, IntKind.bits] using h
theorem pairs_of {H : Type} {enc : TypeId × Value → H} {W : World} {fuel : Nat} {c1 : Value} {y : DataW H × List MemPlace}
 (hf : DataW.trod enc Tryz.prog W 0 (fun _ => true) true fuel 84 [c1] = some y) :
 ∃ a L cap, c1 = .slice a (List.length L) cap ∧ L.length ≤ maxLen ∧ (∀ p, p ∈ L → 0 ≤ p.1 ∧ p.1 ≤ 255 ∧ 0 ≤ p.2 ∧ p.2 ≤ 255) ∧ Lp W a L W := by
 rcases Go.Deep.open_slice Tryz.underlying84 hf with ⟨hcs, _⟩ | ⟨a, len, cap, m, k, D, Pl, hcs, _, hlc, hcm, hm, hx, hel⟩
 ·simp at hcs
  subst hcs
  exact ⟨none, [], 0, rfl, by decide, fun p h => (by cases h), ⟨Below.refl _ _, fun i p h => by simp at h⟩⟩
 ·simp at hcs
  subst hcs
  simp only [if_true] at hm
  subst hm
  have each : ∀ i, i < len → ∃ q : Int × Int, (0 ≤ q.1 ∧ q.1 ≤ 255 ∧ 0 ≤ q.2 ∧ q.2 ≤ 255) ∧ W.cell? (a.add (i * 2)) = some (.int .u8 q.1) ∧ W.cell? (a.add (i * 2 + 1)) = some (.int .u8 q.2) := by
   intro i hi
   obtain ⟨cs', h1, h2⟩ := hel i (by omega)
   rw [cells_B2] at h1
   obtain ⟨_, hlen, hcell⟩ := World.cells?_some h1
   obtain ⟨c0, c1, rfl⟩ : ∃ c0 c1, cs' = [c0, c1] := by
    match cs', hlen with
    | [c0, c1], _ => exact ⟨c0, c1, rfl⟩
   obtain ⟨xs, m, _, _, _, hlx, hxx⟩ := DataW.trod_array Tryz.underlying149 h2
   obtain ⟨x0, x1, rfl⟩ : ∃ x0 x1, xs = [x0, x1] := by
    match xs, hlx with
    | [x0, x1], _ => exact ⟨x0, x1, rfl⟩
   have h0 := hxx 0 (by decide)
   have h1 := hxx 1 (by decide)
   rw [cells_u8S] at h0 h1
   obtain ⟨k, e0, _, w0⟩ := DataW.trod_int Tryz.underlying5 h0
   obtain ⟨l, e1, _, w1⟩ := DataW.trod_int Tryz.underlying5 h1
   simp at e0 e1
   subst e0 e1
   have c0 := hcell 0 (by omega)
   have c1 := hcell 1 (by omega)
   rw [Go.Deep.add_add] at c0 c1
   exact ⟨(k, l), ⟨(u8_wfS w0).1, (u8_wfS w0).2, (u8_wfS w1).1, (u8_wfS w1).2⟩, c0, c1⟩
  obtain ⟨q, hq⟩ := Go.Deep.choose_lt each
  have hl : ((List.range len).map q).length = len := by simp
  refine ⟨some a, (List.range len).map q, m, by rw [hl], by rw [hl]; omega, fun p hp => ?_, ⟨Below.refl _ _, fun p r hp => ?_⟩⟩
  ·obtain ⟨i, hi, rfl⟩ := List.mem_map.1 hp
   exact (hq i (List.mem_range.1 hi)).1
  ·have hp0 := (List.getElem?_eq_some_iff.1 hp).1
   rw [hl] at hp0
   have hr : r = q p := by simp [hp0] at hp; exact hp.symm
   subst hr
   obtain ⟨_, e0, e1⟩ := hq p hp0
   obtain ⟨g, o, spot⟩ := a
   have hspot : spot = none := by
    have := World.cell?_spot (hq 0 (by omega)).2.1
    simpa [Addr.add] using this
   subst hspot
   have hadd : ∀ j, (⟨g, o, none⟩ : Addr).add j = ⟨g, o + j, none⟩ := fun j => by
    unfold Addr.add
    by_cases h0 : j = 0
    ·rw [if_pos h0, h0]; rfl
    ·rw [if_neg h0]
   rw [hadd] at e0 e1
   exact ⟨g, o, rfl, World.block_lt_of_cell? W ⟨g, o + p * 2, none⟩ e0, e0, by rw [Nat.add_assoc]; exact e1⟩
theorem open_S {H : Type} {enc : TypeId × Value → H} {W : World} {base : Nat} {v : Value} {d : DataW H} {p : List MemPlace}
 (hv : Value.okWide Tryz.prog W .any base 86 v) (h : DataW.Trod enc Tryz.prog W 0 (fun _ => true) true 86 v d p) :
 ∃ x a L cap k, v = .agg #[.int .i16 x, .slice a (List.length L) cap, .int .u8 k] ∧ 0 ≤ k ∧ (∀ p, p ∈ L → 0 ≤ p.1 ∧ p.1 ≤ 255 ∧ 0 ≤ p.2 ∧ p.2 ≤ 255) ∧ L.length ≤ maxLen ∧ Lp W a L W := by
 obtain ⟨cs, rfl, hsz⟩ := okWide_struct Tryz.underlying86 hv
 rw [cells_S] at hsz
 obtain ⟨c0, c1, c2, rfl⟩ : ∃ c0 c1 c2, cs = #[c0, c1, c2] := by
  obtain ⟨l⟩ := cs
  match l, hsz with
  | [c0, c1, c2], _ => exact ⟨c0, c1, c2, rfl⟩
 obtain ⟨fuel, hf⟩ := h
 obtain ⟨y0, y1, y2, n, _, _, h0, h1, h2⟩ := Go.Deep.trod_struct3 Tryz.underlying86 hf
 simp only [cells_u8S, cells_i16S, cells_LB2] at h0 h1 h2
 obtain ⟨x, e0, _, _⟩ := DataW.trod_int Tryz.underlying83 h0
 obtain ⟨k, e2, _, w2⟩ := DataW.trod_int Tryz.underlying5 h2
 have h1' : DataW.trod enc Tryz.prog W 0 (fun _ => true) true n 84 [c1] = some y1 := by
  simpa [Value.cells] using h1
 obtain ⟨a, L, cap, e1, hm, hby, hL⟩ := pairs_of h1'
 simp [Value.cells] at e0 e2
 subst e0 e2 e1
 exact ⟨x, a, L, cap, k, rfl, (u8_wfS w2).1, hby, hm, hL⟩
end Go.Proofs.YtndjcmclmhoigaaGreatDoor
