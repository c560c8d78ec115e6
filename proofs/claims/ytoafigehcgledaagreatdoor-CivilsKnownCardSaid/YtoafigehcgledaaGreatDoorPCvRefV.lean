/-
  DERIVED. CONTRACT of the reference of layer 6 (civils): Parse, any text.
-/
import Derived.Test.YtoafigehcgledaaGreatDoorPCvRefQ
import Derived.Test.YtoafigehcgledaaGreatDoorPCvRefR
import Derived.Test.YtoafigehcgledaaGreatDoorPCvRefS
import Derived.Test.YtoafigehcgledaaGreatDoorPCvRefT1
import Derived.Test.YtoafigehcgledaaGreatDoorPCvRefT2
import Derived.Test.YtoafigehcgledaaGreatDoorPCvRefT3
import Derived.Test.YtoafigehcgledaaGreatDoorPCvRefT4
import Derived.Test.YtoafigehcgledaaGreatDoorPCvRefT5
import Derived.Test.YtoafigehcgledaaGreatDoorPCvRefT6
import Derived.Test.YtoafigehcgledaaGreatDoorPCvRefT7
import Derived.Test.YtoafigehcgledaaGreatDoorPCvRefT8
namespace Go.Proofs.YtoafigehcgledaaGreatDoor
open Go.RowKit

theorem digB_two {a b : UInt8} (ha : dig a) (hb : dig b) : digB [a, b] = true := by
  rw [digB_iff]; intro c hc; simp at hc; rcases hc with rfl | rfl <;> assumption
theorem CvForm.head {l : List UInt8} {neg : Bool} {yr : List UInt8} {a b c d : UInt8} (h : CvForm l neg yr a b c d) : ¬ yr.getD 0 0 = 45 := by
  intro e
  have h4 := h.four
  have hg : yr[0]'(by omega) ∈ yr := List.getElem_mem _
  have hd := h.ds _ hg
  rw [List.getD_eq_getElem?_getD, List.getElem?_eq_getElem (by omega)] at e
  simp only [Option.getD_some] at e
  rw [e] at hd
  unfold dig at hd
  revert hd; decide
theorem CvForm.cut {l : List UInt8} {neg : Bool} {yr : List UInt8} {a b c d : UInt8} (h : CvForm l neg yr a b c d) (hm : l.length ≤ 100) :
    ∃ k, Cut l (if neg then 45 :: yr else yr) 45 a b 45 c d k ∧ 4 ≤ k ∧ k ≤ 94 := by
  have he := h.eq
  have h4 := h.four
  cases neg
  · refine ⟨yr.length, ⟨by rw [he]; simp, rfl⟩, by omega, ?_⟩
    rw [he] at hm; simp at hm; omega
  · refine ⟨yr.length + 1, ⟨by rw [he]; simp, rfl⟩, by omega, ?_⟩
    rw [he] at hm; simp at hm; omega
theorem refCParse_in {l : List UInt8} {neg : Bool} {yr : List UInt8} {a b c d : UInt8} (h : CvForm l neg yr a b c d) (hm : l.length ≤ 100) (he : chkC (yv neg yr) (tv a b) (tv c d) = 0) (w : World) :
    Calls Tryz.prog 30 #[.string (bs l)] w fun e w' => e = .returned (.tuple #[.agg #[.int .i64 (yv neg yr), .int .i64 (tv a b), .int .i64 (tv c d)], .int .i64 0]) ∧ Below w.heap.size w w' := by
  obtain ⟨k, hC, hk, hk2⟩ := h.cut hm
  have hR := (chkC_iff _ _ _).1 he
  have hds := (digB_iff yr).2 h.ds
  cases neg
  · exact rp_ok_pos_in hC hk hk2 (digB_two h.dc h.dd) (digB_two h.da h.db) h.four hds h.lead h.head rfl hR.yr he w
  · exact rp_ok_neg_in hC hk hk2 (digB_two h.dc h.dd) (digB_two h.da h.db) h.four hds h.lead (fun e => h.nz ⟨rfl, e⟩) rfl hR.yr he w
theorem chkC_no {y m d : Int} (h : isY y = false) : chkC y m d = 6 := by
  have : chkM y m = 6 := by unfold chkM; rw [h]; rfl
  unfold chkC; rw [this]; rfl
theorem refCParse_err {l : List UInt8} {neg : Bool} {yr : List UInt8} {a b c d : UInt8} {er : Int} (h : CvForm l neg yr a b c d) (hm : l.length ≤ 100) (he : chkC (yv neg yr) (tv a b) (tv c d) = er) (h0 : ¬ er = 0) (w : World) :
    Calls Tryz.prog 30 #[.string (bs l)] w fun e w' => e = .returned (.tuple #[.agg #[.int .i64 0, .int .i64 0, .int .i64 0], .int .i64 er]) ∧ Below w.heap.size w w' := by
  obtain ⟨k, hC, hk, hk2⟩ := h.cut hm
  have hds := (digB_iff yr).2 h.ds
  cases hY : isY (yv neg yr)
  · rw [chkC_no hY] at he
    subst he
    by_cases hI : -9223372036854775808 ≤ yv neg yr ∧ yv neg yr ≤ 9223372036854775807
    · cases neg
      · exact rp_ok_pos_far hC hk hk2 (digB_two h.dc h.dd) (digB_two h.da h.db) h.four hds h.lead h.head rfl hI hY w
      · exact rp_ok_neg_far hC hk hk2 (digB_two h.dc h.dd) (digB_two h.da h.db) h.four hds h.lead (fun e => h.nz ⟨rfl, e⟩) rfl hI hY w
    · cases neg
      · exact rp_ok_pos_out hC hk hk2 (digB_two h.dc h.dd) (digB_two h.da h.db) h.four hds h.lead h.head rfl hI w
      · exact rp_ok_neg_out hC hk hk2 (digB_two h.dc h.dd) (digB_two h.da h.db) h.four hds h.lead (fun e => h.nz ⟨rfl, e⟩) rfl hI w
  · cases neg
    · exact rp_ok_pos_bad hC hk hk2 (digB_two h.dc h.dd) (digB_two h.da h.db) h.four hds h.lead h.head rfl hY he h0 w
    · exact rp_ok_neg_bad hC hk hk2 (digB_two h.dc h.dd) (digB_two h.da h.db) h.four hds h.lead (fun e => h.nz ⟨rfl, e⟩) rfl hY he h0 w
theorem two_digs {a b : UInt8} (h : digB [a, b] = true) : dig a ∧ dig b := ⟨(digB_iff _).1 h a (by simp), (digB_iff _).1 h b (by simp)⟩
theorem refCParse_no {l : List UInt8} (h : ¬ ∃ neg yr a b c d, CvForm l neg yr a b c d) (hm : l.length ≤ 100) (w : World) :
    Calls Tryz.prog 30 #[.string (bs l)] w fun e w' => e = .returned (.tuple #[.agg #[.int .i64 0, .int .i64 0, .int .i64 0], .int .i64 5]) ∧ Below w.heap.size w w' := by
  by_cases h10 : l.length < 10
  · exact rp_short h10 w
  obtain ⟨z, p, a, b, q, c, d, k, hC, hk⟩ := cut_ex (l := l) (by omega)
  have hk2 : k ≤ 94 := by have := hC.size; omega
  by_cases g : q = 45 ∧ p = 45 ∧ digB [c, d] = true ∧ digB [a, b] = true
  · obtain ⟨rfl, rfl, h2, h5⟩ := g
    obtain ⟨dc, dd⟩ := two_digs h2
    obtain ⟨da, db⟩ := two_digs h5
    have hlz := hC.len
    by_cases g0 : z.getD 0 0 = 45
    · obtain ⟨yr, rfl⟩ : ∃ yr, z = 45 :: yr := by
        match z, hlz, g0 with
        | x :: yr, _, g0 => exact ⟨yr, by have : x = 45 := by simpa using g0
                                          rw [this]⟩
        | [], hlz, _ => simp at hlz; omega
      by_cases g1 : yr.length < 4
      · exact rp_neg1 hC hk hk2 h2 h5 g1 w
      · cases g2 : digB yr
        · exact rp_neg2 hC hk hk2 h2 h5 ⟨by omega, g2⟩ w
        · by_cases g3 : 4 < yr.length ∧ yr.getD 0 0 = 48
          · exact rp_neg3 hC hk hk2 h2 h5 ⟨g3.1, g2, g3.2⟩ w
          · by_cases g4 : yr = [48, 48, 48, 48]
            · exact rp_neg4 hC hk hk2 h2 h5 g4 w
            · exact absurd ⟨true, yr, a, b, c, d, ⟨by rw [hC.eq]; rfl, (digB_iff _).1 g2, by omega, fun e e2 => g3 ⟨e, e2⟩, fun e => g4 e.2, da, db, dc, dd⟩⟩ h
    · cases g2 : digB z
      · exact rp_pos2 hC hk hk2 h2 h5 g0 ⟨by omega, g2⟩ w
      · by_cases g3 : 4 < z.length ∧ z.getD 0 0 = 48
        · exact rp_pos3 hC hk hk2 h2 h5 ⟨g3.1, g2, g3.2⟩ w
        · exact absurd ⟨false, z, a, b, c, d, ⟨by rw [hC.eq]; rfl, (digB_iff _).1 g2, by omega, fun e e2 => g3 ⟨e, e2⟩, (fun e => by cases e.1), da, db, dc, dd⟩⟩ h
  · exact rp_first hC hk hk2 g w
end Go.Proofs.YtoafigehcgledaaGreatDoor
