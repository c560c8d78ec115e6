/-
  DERIVED. Bytes and pieces of strings, as facts for every world.
-/
import Derived.Test.YtoafigehcgledaaGreatDoorCvRefT
namespace Go.Proofs.YtoafigehcgledaaGreatDoor
open Go.RowKit

theorem bs_get {l : List UInt8} {i : Nat} {c : UInt8} (h : l[i]? = some c) : ∃ hi : i < (bs l).size, (bs l)[i] = c := by
  obtain ⟨hi, e⟩ := List.getElem?_eq_some_iff.1 h
  exact ⟨by rw [bs_size]; exact hi, e⟩
theorem idx_bs {l : List UInt8} {i : Nat} {c : UInt8} (h : l[i]? = some c) (w : World) :
    (Instr.index 9 (.string (bs l)) (.int .i64 (i : Int))).run Tryz.prog w = .ok (.int .u8 (c.toNat : Int)) w := by
  obtain ⟨hi, e⟩ := bs_get h
  rw [run_index_string (P := Tryz.prog) w 9 (bs l) .i64 (i : Int) Tryz.underlying9, dif_pos ⟨by omega, by omega⟩]
  simp only [Int.toNat_natCast, e]
theorem ext_bs (l : List UInt8) (i j : Nat) : (bs l).extract i j = bs ((l.take j).drop i) := by
  apply ByteArray.ext
  rw [ByteArray.data_extract]
  show l.toArray.extract i j = ((l.take j).drop i).toArray
  rw [List.extract_toArray]
  rw [List.extract_eq_take_drop, List.drop_take]
theorem from_bs {l : List UInt8} {i : Nat} (h : i ≤ l.length) (w : World) :
    (Instr.slice 9 (.string (bs l)) (some (.int .i64 (i : Int))) none none).run Tryz.prog w = .ok (.string (bs (l.drop i))) w := by
  have hs := bs_size l
  rw [run_slice_string_l (P := Tryz.prog) w 9 (bs l) Tryz.underlying9 .i64 (i : Int) (by omega) (by rw [hs]; omega)]
  rw [Int.toNat_natCast, ext_bs l i _, hs, List.take_length]
theorem to_bs {l : List UInt8} {i : Nat} (h : i ≤ l.length) (w : World) :
    (Instr.slice 9 (.string (bs l)) none (some (.int .i64 (i : Int))) none).run Tryz.prog w = .ok (.string (bs (l.take i))) w := by
  have hs := bs_size l
  rw [run_slice_string_h (P := Tryz.prog) w 9 (bs l) Tryz.underlying9 .i64 (i : Int) (by omega) (by rw [hs]; omega)]
  rw [Int.toNat_natCast, ext_bs l 0 _, List.drop_zero]
theorem mid_bs {l : List UInt8} {i j : Nat} (hij : i ≤ j) (h : j ≤ l.length) (w : World) :
    (Instr.slice 9 (.string (bs l)) (some (.int .i64 (i : Int))) (some (.int .i64 (j : Int))) none).run Tryz.prog w = .ok (.string (bs ((l.take j).drop i))) w := by
  have hs := bs_size l
  rw [run_slice_string (P := Tryz.prog) (w := w) 9 (bs l) .i64 .i64 (i : Int) (j : Int) Tryz.underlying9 (by omega) (by omega) (by rw [hs]; omega)]
  rw [Int.toNat_natCast, Int.toNat_natCast, ext_bs l i j]
/-- a text cut into its last six bytes and what stands ahead -/
structure Cut (l z : List UInt8) (p a b q c d : UInt8) (k : Nat) : Prop where
  eq : l = z ++ [p, a, b, q, c, d]
  len : z.length = k
theorem Cut.at {l z : List UInt8} {p a b q c d : UInt8} {k : Nat} (h : Cut l z p a b q c d k) (j : Nat) : l[k + j]? = [p, a, b, q, c, d][j]? := by
  rw [h.eq, List.getElem?_append_right (by rw [h.len]; omega), h.len]
  congr 1; omega
theorem Cut.size {l z : List UInt8} {p a b q c d : UInt8} {k : Nat} (h : Cut l z p a b q c d k) : l.length = k + 6 := by rw [h.eq, List.length_append, h.len]; rfl
theorem Cut.z {l z : List UInt8} {p a b q c d : UInt8} {k : Nat} (h : Cut l z p a b q c d k) : l.take k = z := by rw [h.eq, List.take_append_of_le_length (by rw [h.len]; exact Nat.le_refl _), ← h.len, List.take_length]
theorem Cut.dd {l z : List UInt8} {p a b q c d : UInt8} {k : Nat} (h : Cut l z p a b q c d k) : l.drop (k + 4) = [c, d] := by
  rw [h.eq, List.drop_append, h.len, List.drop_eq_nil_of_le (by rw [h.len]; omega), show k + 4 - k = 4 by omega]; rfl
theorem Cut.mm {l z : List UInt8} {p a b q c d : UInt8} {k : Nat} (h : Cut l z p a b q c d k) : (l.take (k + 3)).drop (k + 1) = [a, b] := by
  rw [h.eq, List.take_append, h.len, List.take_of_length_le (by rw [h.len]; omega), List.drop_append, h.len, List.drop_eq_nil_of_le (by rw [h.len]; omega), show k + 3 - k = 3 by omega, show k + 1 - k = 1 by omega]; rfl
theorem cut_ex {l : List UInt8} (h : 10 ≤ l.length) : ∃ z p a b q c d k, Cut l z p a b q c d k ∧ 4 ≤ k := by
  have h1 := (List.take_append_drop (l.length - 6) l).symm
  have h2 : (l.drop (l.length - 6)).length = 6 := by rw [List.length_drop]; omega
  match l.drop (l.length - 6), h2, h1 with
  | [p, a, b, q, c, d], _, h1 => exact ⟨_, p, a, b, q, c, d, _, ⟨h1, rfl⟩, by rw [List.length_take]; omega⟩
end Go.Proofs.YtoafigehcgledaaGreatDoor
