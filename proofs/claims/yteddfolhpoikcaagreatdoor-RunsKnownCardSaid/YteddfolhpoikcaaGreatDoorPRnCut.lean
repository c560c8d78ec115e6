/-
 DERIVED. strings.Cut at two points; what the variables give package runs. Written by mkrnd5.py.
-/
import Derived.Test.YteddfolhpoikcaaGreatDoorPShelf
import Derived.Test.YteddfolhpoikcaaGreatDoorPR1a
import Derived.Test.YteddfolhpoikcaaGreatDoorPEnDev
namespace Go.Proofs.YteddfolhpoikcaaGreatDoor
open Go.RowKit
set_option maxRecDepth 100000


theorem occ_dd (l : List UInt8) (i : Nat) : Lib.occAt l [46, 46] i = true ↔ dd l i := by
 unfold Lib.occAt dd
 have h0 : l[i]? = (l.drop i)[0]? := by rw [List.getElem?_drop]; simp
 have h1 : l[i + 1]? = (l.drop i)[1]? := by rw [List.getElem?_drop]
 rw [h0, h1]
 rcases l.drop i with _ | ⟨x, _ | ⟨y, t⟩⟩
 ·exact ⟨fun h => absurd h (by decide), fun h => absurd h.1 (by simp)⟩
 ·exact ⟨fun h => absurd (show ((46 == x) && false) = true from h) (by cases (46 == x) <;> decide), fun h => absurd h.2 (by simp)⟩
 ·show ((46 == x) && ((46 == y) && true)) = true ↔ some x = some 46 ∧ some y = some 46
  rw [Bool.and_eq_true, Bool.and_eq_true, beq_iff_eq, beq_iff_eq]
  exact ⟨fun h => ⟨by rw [h.1], by rw [h.2.1]⟩, fun h => ⟨(Option.some.inj h.1).symm, (Option.some.inj h.2).symm, rfl⟩⟩
theorem libcut_at {l : List UInt8} {j : Nat} (h : CutAt l j) : Lib.cut l [46, 46] = (l.take j, l.drop (j + 2), true) := by
 have := Lib.index_first (s := l) (sub := [46, 46]) (i := j) (by have := h.lt; omega) ((occ_dd l j).2 h.two) (fun i hi => Bool.eq_false_iff.2 (fun q => h.first i hi ((occ_dd l i).1 q)))
 unfold Lib.cut
 rw [this, if_pos (by omega)]
 simp
theorem libcut_no {l : List UInt8} (h : NoCut l) : Lib.cut l [46, 46] = (l, [], false) := by
 rcases Lib.index_spec l [46, 46] with ⟨h1, _⟩ | ⟨i, _, _, h3, _⟩
 ·unfold Lib.cut
  rw [h1, if_neg (by omega)]
 ·exact absurd ((occ_dd l i).1 h3) (h i)
theorem below_drewN {B : Nat} {a w : World} (h : Below B a w) (n : Nat) : Below B a (w.drewN n) := h.trans ⟨rfl, rfl, rfl, Nat.le_refl _, fun _ _ => rfl⟩
/-- the variables that package runs reads: as they were laid; the library's MaxLen holds some number -/
structure LaidRn (w : World) : Prop where
 en : LaidEn w
 mx : ∃ m, w.cell? ⟨2, 0, none⟩ = some (.int .i64 m)
 size : 2 < w.heap.size
theorem LaidRn.below {w w' : World} (h : LaidRn w) (hb : Below w.heap.size w w') : LaidRn w' where
 en := h.en.below hb
 mx := by rw [hb.cell (p := ⟨2, 0, none⟩) h.size]; exact h.mx
 size := Nat.lt_of_lt_of_le h.size hb.size
theorem dCut_at {l : List UInt8} {j : Nat} (h : CutAt l j) (hl : l.length ≤ 130) (w : World) (hL : LaidRn w) :
 Calls Tryz.prog 63 #[.string (bs l), .string ⟨#[46, 46]⟩] w fun e w' => e = .returned (.tuple #[.string (bs (l.take j)), .string (bs (l.drop (j + 2))), .bool true]) ∧ Below w.heap.size w w' := by
 obtain ⟨m, hm⟩ := hL.mx
 refine (Tryz.strings_Cut (bs l) ⟨#[46, 46]⟩ m w (by rw [bs_size]; omega) hm).mono ?_
 have hd : (bs l).data.toList = l := by unfold bs; simp
 rintro e w' ⟨rfl, n, rfl⟩
 rw [hd, show (⟨#[46, 46]⟩ : ByteArray).data.toList = [46, 46] from rfl, libcut_at h]
 exact ⟨rfl, below_drewN (Below.refl _ _) n⟩
theorem dCut_no {l : List UInt8} (h : NoCut l) (hl : l.length ≤ 130) (w : World) (hL : LaidRn w) :
 Calls Tryz.prog 63 #[.string (bs l), .string ⟨#[46, 46]⟩] w fun e w' => e = .returned (.tuple #[.string (bs l), .string ⟨#[]⟩, .bool false]) ∧ Below w.heap.size w w' := by
 obtain ⟨m, hm⟩ := hL.mx
 refine (Tryz.strings_Cut (bs l) ⟨#[46, 46]⟩ m w (by rw [bs_size]; omega) hm).mono ?_
 have hd : (bs l).data.toList = l := by unfold bs; simp
 rintro e w' ⟨rfl, n, rfl⟩
 rw [hd, show (⟨#[46, 46]⟩ : ByteArray).data.toList = [46, 46] from rfl, libcut_no h]
 exact ⟨rfl, below_drewN (Below.refl _ _) n⟩
theorem ParE.err {l : List UInt8} {f d c : Int} (h : ParE l f d c) : c = 0 ∨ c = 5 ∨ c = 15 := by
 by_cases h1 : l = infL
 ·exact .inl (h.inf h1).2.2
 ·by_cases h2 : l = minfL
  ·exact .inl (h.minf h2).2.2
  ·by_cases h3 : Form l
   ·by_cases h4 : -9223372036854775808 ≤ textVal l ∧ textVal l ≤ 9223372036854775807
    ·exact .inl (h.fits h1 h2 h3 h4).2.2
    ·exact .inr (.inr (h.over h1 h2 h3 h4).2.2)
   ·exact .inr (.inl (h.no h1 h2 h3).2.2)
end Go.Proofs.YteddfolhpoikcaaGreatDoor
