/-
  DERIVED. The whole numbers' reference in namespace R1: Parse, any text. Written by mkr1b.
-/
import Derived.Test.YtbnlomjlapnoaaaDoorR1RefParse
import Derived.Test.YtbnlomjlapnoaaaDoorR1RefInt
import Derived.Test.YtbnlomjlapnoaaaDoorR1RefText
namespace Go.Proofs.YtbnlomjlapnoaaaDoor.R1
open Go.RowKit

theorem ref_parse_no (l : List UInt8) (hm : l.length ≤ 1000) (h : ¬ Form l) (w : World) :
    Calls Tryd.prog 32 #[.string ⟨⟨l⟩⟩] w (Refused w) := by
  match l, hm, h with
  | [], _, _ => exact rparse_empty w
  | c :: r, hm, h =>
    by_cases c45 : c.toNat = 45
    · have hc : c = 45 := UInt8.toNat_inj.1 c45
      match r, hm, h with
      | [], _, _ => subst hc; exact rparse_minus w
      | d :: t, hm, h =>
        by_cases d48 : d.toNat = 48
        · exact rparse_mlead ⟨⟨c :: d :: t⟩⟩ (by show 1 < (c :: d :: t).length; simp) hm (beq_iff_eq.2 (by show (c.toNat : Int) = 45; omega)) (beq_iff_eq.2 (by show (d.toNat : Int) = 48; omega)) w
        · exact rparse_mbad ⟨⟨c :: d :: t⟩⟩ hm (by show 1 < (c :: d :: t).length; simp) (beq_iff_eq.2 (by show (c.toNat : Int) = 45; omega)) (beq_eq_false_iff_ne.2 (by show ¬ (d.toNat : Int) = 48; omega)) (fun hall => h (.inr ⟨d, t, .inr (by rw [hc]), d48, hall⟩)) w
    · by_cases c48 : c.toNat = 48
      · match r, hm, h with
        | [], _, h => exact absurd (.inl (by rw [show c = 48 from UInt8.toNat_inj.1 c48])) h
        | d :: t, hm, h => exact rparse_lead ⟨⟨c :: d :: t⟩⟩ (by show 1 < (c :: d :: t).length; simp) hm (beq_eq_false_iff_ne.2 (by show ¬ (c.toNat : Int) = 45; omega)) (beq_iff_eq.2 (by show (c.toNat : Int) = 48; omega)) w
      · exact rparse_pbad ⟨⟨c :: r⟩⟩ hm (by show 0 < (c :: r).length; simp) (beq_eq_false_iff_ne.2 (by show ¬ (c.toNat : Int) = 45; omega)) (beq_eq_false_iff_ne.2 (by show ¬ (c.toNat : Int) = 48; omega)) (fun hall => h (.inr ⟨c, r, .inl rfl, c48, hall⟩)) w
theorem ref_parse_yes (l : List UInt8) (hm : l.length ≤ 1000) (h : Form l) (w : World) :
    Calls Tryd.prog 32 #[.string ⟨⟨l⟩⟩] w (ReadAs (textVal l) w) := by
  rcases h with rfl | ⟨c, r, rfl | rfl, hc, hall⟩
  · have h := rparse_zok ⟨⟨[48]⟩⟩ rfl (by decide) (by decide) (by intro c hc; have hc2 : c ∈ [(48 : UInt8)] := hc; rw [List.mem_singleton.1 hc2]; unfold dig; decide) w
    have e : nv false (dgs [48] 0) = textVal [48] := by unfold nv; rw [vl_dgs]; rfl
    rw [← e]; exact h
  · have hd := hall c (by simp)
    unfold dig at hd
    have h := rparse_pok ⟨⟨c :: r⟩⟩ hm (by show 0 < (c :: r).length; simp) (beq_eq_false_iff_ne.2 (by show ¬ (c.toNat : Int) = 45; omega)) (beq_eq_false_iff_ne.2 (by show ¬ (c.toNat : Int) = 48; omega)) hall w
    have e : nv false (dgs (c :: r) 0) = textVal (c :: r) := by unfold nv; rw [vl_dgs, textVal_plain c r (by omega)]; rfl
    rw [← e]; exact h
  · have h := rparse_mok ⟨⟨45 :: c :: r⟩⟩ hm (by show 1 < (45 :: c :: r).length; simp) (beq_iff_eq.2 (by show ((45 : UInt8).toNat : Int) = 45; rfl)) (beq_eq_false_iff_ne.2 (by show ¬ (c.toNat : Int) = 48; omega)) hall w
    have e : nv true (dgs (45 :: c :: r) 1) = textVal (45 :: c :: r) := by unfold nv; rw [vl_dgs, textVal_minus]; rfl
    rw [← e]; exact h
/-- digits, written out again -/
theorem dec_again (c : UInt8) (r : List UInt8) (hc : ¬ c.toNat = 48) (hall : ∀ x ∈ c :: r, dig x) : 0 < valM 0 (c :: r) ∧ Lib.decDigits (valM 0 (c :: r)) = c :: r := by
  have hcan : Can (dgs (c :: r) 0) := ⟨dgs_nine _ 0 hall, fun a ha => by
    rw [dgs_step _ 0 (by simp)] at ha
    have := (List.append_inj' ha rfl).2
    have hd := hall c (by simp)
    unfold dig at hd
    simp at this; omega⟩
  have hv : dg (valM 0 (c :: r)) = dgs (c :: r) 0 := by have := hcan.eq; rw [vl_dgs] at this; exact this
  have hpos : 0 < valM 0 (c :: r) := by
    apply Nat.pos_of_ne_zero
    intro h0
    rw [h0, dg_zero] at hv
    have := congrArg List.length hv
    rw [dgs_len] at this; simp at this
  refine ⟨hpos, ?_⟩
  rw [decDigits_dg _ hpos, hv]
  unfold dgs
  rw [List.drop_zero, ← List.map_reverse, List.reverse_reverse, List.map_map]
  have : ∀ x ∈ c :: r, ((fun d => UInt8.ofNat (48 + d)) ∘ fun c : UInt8 => c.toNat - 48) x = id x := by
    intro x hx
    have hd := hall x hx
    unfold dig at hd
    show UInt8.ofNat (48 + (x.toNat - 48)) = x
    rw [show 48 + (x.toNat - 48) = x.toNat from by omega]
    exact UInt8.ofNat_toNat
  rw [List.map_congr_left this, List.map_id]
theorem itoa_again (l : List UInt8) (h : Form l) : Lib.itoa (textVal l) = l := by
  rcases h with rfl | ⟨c, r, rfl | rfl, hc, hall⟩
  · show Lib.itoa 0 = [48]
    unfold Lib.itoa; rw [if_neg (by decide), Lib.decDigits]; rfl
  · obtain ⟨hp, hd⟩ := dec_again c r hc hall
    have h1 := hall c (by simp)
    unfold dig at h1
    rw [textVal_plain c r (by omega)]
    unfold Lib.itoa
    rw [if_neg (by omega), Int.toNat_natCast, hd]
  · obtain ⟨hp, hd⟩ := dec_again c r hc hall
    rw [textVal_minus]
    unfold Lib.itoa
    rw [if_pos (by omega), Int.natAbs_neg, Int.natAbs_natCast, hd]
end Go.Proofs.YtbnlomjlapnoaaaDoor.R1
