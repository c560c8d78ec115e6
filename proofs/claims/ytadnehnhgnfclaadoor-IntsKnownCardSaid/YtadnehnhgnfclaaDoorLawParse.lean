/-
  DERIVED. WALK of the law IntsParse; whole contract of the reference's Parse.
-/
import Derived.Test.YtadnehnhgnfclaaDoorRefParse
import Derived.Test.YtadnehnhgnfclaaDoorRefInt
import Derived.Test.YtadnehnhgnfclaaDoorLawText
namespace Go.Proofs.YtadnehnhgnfclaaDoor
open Go.RowKit

theorem ref_parse_no (l : List UInt8) (hm : l.length ≤ 1000) (h : ¬ Form l) (w : World) :
    Calls Tryd.prog 28 #[.string ⟨⟨l⟩⟩] w (Refused w) := by
  match l, hm, h with
  | [], _, _ => exact rparse_empty w
  | c :: r, hm, h =>
    by_cases c45 : c.toNat = 45
    · have hc : c = 45 := UInt8.toNat_inj.1 c45
      match r, hm, h with
      | [], _, _ => subst hc; exact rparse_minus w
      | d :: t, hm, h =>
        by_cases d48 : d.toNat = 48
        · exact rparse_mlead ⟨⟨c :: d :: t⟩⟩ (by show 1 < (c :: d :: t).length; simp) hm (beq_iff_eq.2 (by show (c.toNat : Int) = 45; omega)) (beq_iff_eq.2 (by show (d.toNat : Int) = 48; omega)) w
        · exact rparse_mbad ⟨⟨c :: d :: t⟩⟩ hm (by show 1 < (c :: d :: t).length; simp) (beq_iff_eq.2 (by show (c.toNat : Int) = 45; omega)) (beq_eq_false_iff_ne.2 (by show ¬ (d.toNat : Int) = 48; omega)) (fun hall => h (.inr ⟨d, t, .inr (by rw [hc]), d48, hall⟩)) w
    · by_cases c48 : c.toNat = 48
      · match r, hm, h with
        | [], _, h => exact absurd (.inl (by rw [show c = 48 from UInt8.toNat_inj.1 c48])) h
        | d :: t, hm, h => exact rparse_lead ⟨⟨c :: d :: t⟩⟩ (by show 1 < (c :: d :: t).length; simp) hm (beq_eq_false_iff_ne.2 (by show ¬ (c.toNat : Int) = 45; omega)) (beq_iff_eq.2 (by show (c.toNat : Int) = 48; omega)) w
      · exact rparse_pbad ⟨⟨c :: r⟩⟩ hm (by show 0 < (c :: r).length; simp) (beq_eq_false_iff_ne.2 (by show ¬ (c.toNat : Int) = 45; omega)) (beq_eq_false_iff_ne.2 (by show ¬ (c.toNat : Int) = 48; omega)) (fun hall => h (.inr ⟨c, r, .inl rfl, c48, hall⟩)) w
theorem ref_parse_yes (l : List UInt8) (hm : l.length ≤ 1000) (h : Form l) (w : World) :
    Calls Tryd.prog 28 #[.string ⟨⟨l⟩⟩] w (ReadAs (textVal l) w) := by
  rcases h with rfl | ⟨c, r, rfl | rfl, hc, hall⟩
  · have h := rparse_zok ⟨⟨[48]⟩⟩ rfl (by decide) (by decide) (by intro c hc; have hc2 : c ∈ [(48 : UInt8)] := hc; rw [List.mem_singleton.1 hc2]; unfold dig; decide) w
    have e : nv false (dgs [48] 0) = textVal [48] := by unfold nv; rw [vl_dgs]; rfl
    rw [← e]; exact h
  · have hd := hall c (by simp)
    unfold dig at hd
    have h := rparse_pok ⟨⟨c :: r⟩⟩ hm (by show 0 < (c :: r).length; simp) (beq_eq_false_iff_ne.2 (by show ¬ (c.toNat : Int) = 45; omega)) (beq_eq_false_iff_ne.2 (by show ¬ (c.toNat : Int) = 48; omega)) hall w
    have e : nv false (dgs (c :: r) 0) = textVal (c :: r) := by unfold nv; rw [vl_dgs, textVal_plain c r (by omega)]; rfl
    rw [← e]; exact h
  · have h := rparse_mok ⟨⟨45 :: c :: r⟩⟩ hm (by show 1 < (45 :: c :: r).length; simp) (beq_iff_eq.2 (by show ((45 : UInt8).toNat : Int) = 45; rfl)) (beq_eq_false_iff_ne.2 (by show ¬ (c.toNat : Int) = 48; omega)) hall w
    have e : nv true (dgs (45 :: c :: r) 1) = textVal (45 :: c :: r) := by unfold nv; rw [vl_dgs, textVal_minus]; rfl
    rw [← e]; exact h
/-- digits, written out again -/
theorem dec_again (c : UInt8) (r : List UInt8) (hc : ¬ c.toNat = 48) (hall : ∀ x ∈ c :: r, dig x) : 0 < valM 0 (c :: r) ∧ Lib.decDigits (valM 0 (c :: r)) = c :: r := by
  have hcan : Can (dgs (c :: r) 0) := ⟨dgs_nine _ 0 hall, fun a ha => by
    rw [dgs_step _ 0 (by simp)] at ha
    have := (List.append_inj' ha rfl).2
    have hd := hall c (by simp)
    unfold dig at hd
    simp at this; omega⟩
  have hv : dg (valM 0 (c :: r)) = dgs (c :: r) 0 := by have := hcan.eq; rw [vl_dgs] at this; exact this
  have hpos : 0 < valM 0 (c :: r) := by
    apply Nat.pos_of_ne_zero
    intro h0
    rw [h0, dg_zero] at hv
    have := congrArg List.length hv
    rw [dgs_len] at this; simp at this
  refine ⟨hpos, ?_⟩
  rw [decDigits_dg _ hpos, hv]
  unfold dgs
  rw [List.drop_zero, ← List.map_reverse, List.reverse_reverse, List.map_map]
  have : ∀ x ∈ c :: r, ((fun d => UInt8.ofNat (48 + d)) ∘ fun c : UInt8 => c.toNat - 48) x = id x := by
    intro x hx
    have hd := hall x hx
    unfold dig at hd
    show UInt8.ofNat (48 + (x.toNat - 48)) = x
    rw [show 48 + (x.toNat - 48) = x.toNat from by omega]
    exact UInt8.ofNat_toNat
  rw [List.map_congr_left this, List.map_id]
theorem itoa_again (l : List UInt8) (h : Form l) : Lib.itoa (textVal l) = l := by
  rcases h with rfl | ⟨c, r, rfl | rfl, hc, hall⟩
  · show Lib.itoa 0 = [48]
    unfold Lib.itoa; rw [if_neg (by decide), Lib.decDigits]; rfl
  · obtain ⟨hp, hd⟩ := dec_again c r hc hall
    have h1 := hall c (by simp)
    unfold dig at h1
    rw [textVal_plain c r (by omega)]
    unfold Lib.itoa
    rw [if_neg (by omega), Int.toNat_natCast, hd]
  · obtain ⟨hp, hd⟩ := dec_again c r hc hall
    rw [textVal_minus]
    unfold Lib.itoa
    rw [if_pos (by omega), Int.natAbs_neg, Int.natAbs_natCast, hd]
theorem textVal_len (l : List UInt8) (h : Form l) : (dg (textVal l).natAbs).length ≤ l.length := by
  rcases h with rfl | ⟨c, r, rfl | rfl, hc, hall⟩
  · show (dg 0).length ≤ 1
    rw [dg_zero]; simp
  · have h1 := hall c (by simp)
    unfold dig at h1
    rw [textVal_plain c r (by omega), Int.natAbs_natCast, ← show (c :: r).drop 0 = c :: r from rfl, ← vl_dgs]
    have := vl_lt _ (dgs_nine (c :: r) 0 hall)
    have := dg_length_le _ _ this
    rw [dgs_len] at this
    simpa using this
  · rw [textVal_minus, Int.natAbs_neg, Int.natAbs_natCast, ← show (c :: r).drop 0 = c :: r from rfl, ← vl_dgs]
    have := vl_lt _ (dgs_nine (c :: r) 0 hall)
    have := dg_length_le _ _ this
    rw [dgs_len] at this
    simp at this ⊢; omega

set_option maxRecDepth 100000 in
set_option maxHeartbeats 1000000 in
theorem lawParse_long (s : ByteArray) (w : World) (hw : Laid w) (hs : 100 < (s.size : Int)) :
    Calls Tryd.prog 7 #[.string s] w fun e w' => e = .returned (.bool true) ∧ Below w.heap.size w w' := by
  have HW := Lib.hid hw; clear hw
  go_enter Tryd.func7, Tryd.ntmps7
  go_wp2_with fail
  refine (lives_any _ HW.out).mono ?_
  rintro e w5 ⟨rfl, hc⟩
  go_wp2_with fail
  go_ret
  exact ⟨rfl, hc⟩
set_option maxRecDepth 100000 in
set_option maxHeartbeats 1000000 in
theorem lawParse_no (l : List UInt8) (w : World) (hw : Laid w) (hs : l.length ≤ 100) (h : ¬ Form l) :
    Calls Tryd.prog 7 #[.string ⟨⟨l⟩⟩] w fun e w' => e = .returned (.bool true) ∧ Below w.heap.size w w' := by
  have HW := Lib.hid hw; clear hw
  have hp := fun w1 => parse_no' ⟨⟨l⟩⟩ w1 (by show l.length ≤ _; omega) h
  have HP := Lib.hid hp; clear hp
  have hr := fun w1 => ref_parse_no l (by omega) h w1
  have HR := Lib.hid hr; clear hr
  have h1 : ¬ 100 < ((ByteArray.mk ⟨l⟩).size : Int) := by show ¬ 100 < (l.length : Int); omega
  generalize hS : ByteArray.mk ⟨l⟩ = S at *
  clear hS hs h
  go_enter Tryd.func7, Tryd.ntmps7
  go_wp2_with fail
  refine (HP.out _).mono ?_
  rintro e w1 ⟨rfl, hb1⟩
  go_wp2_with fail
  refine (HR.out _).mono ?_
  rintro e w2 ⟨rfl, hc⟩
  have hb2 := hb1.trans (hc.mono hb1.size); clear hc hb1
  go_wp2_with fail
  refine (fails_same _ _).mono ?_
  rintro e w' ⟨rfl, rfl⟩
  have hb3 := hb2.trans ((below1 w2 (.cells #[.bool false, .slice none 0 0] NT)).mono hb2.size); clear hb2
  go_wp2_with fail
  refine (lives_any _ (HW.out.below hb3)).mono ?_
  rintro e w5 ⟨rfl, hc⟩
  have hb5 := hb3.trans (hc.mono hb3.size); clear hc hb3
  go_wp2_with fail
  go_ret
  exact ⟨rfl, hb5⟩
set_option maxRecDepth 100000 in
set_option maxHeartbeats 1000000 in
theorem lawParse_in (l : List UInt8) (w : World) (hw : Laid w) (hs : l.length ≤ 100) (h : Form l) (h0 : -9223372036854775808 ≤ textVal l) (h1 : textVal l ≤ 9223372036854775807) :
    Calls Tryd.prog 7 #[.string ⟨⟨l⟩⟩] w fun e w' => e = .returned (.bool true) ∧ Below w.heap.size w w' := by
  have HW := Lib.hid hw; clear hw
  have hp := fun w1 => parse_in ⟨⟨l⟩⟩ w1 (by show l.length ≤ _; omega) h h0 h1
  have hv : textVal (ByteArray.mk ⟨l⟩).data.toList = textVal l := rfl
  rw [hv] at hp
  have HP := Lib.hid hp; clear hp
  have hr := fun w1 => ref_parse_yes l (by omega) h w1
  have HR := Lib.hid hr; clear hr
  have hl := textVal_len l h
  have ht := fun w1 (k : Laid w1) => text_any (textVal l) w1 k h0 h1
  rw [itoa_again l h] at ht
  have HT := Lib.hid ht; clear ht
  have hi := fun va w1 (k : Digs w1 va (dg (textVal l).natAbs)) => is_in (textVal l) va w1 k (by omega) h0 h1
  have HI := Lib.hid hi; clear hi
  have h2 : ¬ 100 < ((ByteArray.mk ⟨l⟩).size : Int) := by show ¬ 100 < (l.length : Int); omega
  have h3 : (ByteArray.mk l.toArray) = ByteArray.mk ⟨l⟩ := rfl
  rw [h3] at HT
  clear h3 hv hl
  generalize textVal l = x at *
  generalize hS : ByteArray.mk ⟨l⟩ = S at *
  clear hS hs h
  go_enter Tryd.func7, Tryd.ntmps7
  go_wp2_with fail
  refine (HP.out _).mono ?_
  rintro e w1 ⟨rfl, hb1⟩
  go_wp2_with fail
  refine (HR.out _).mono ?_
  rintro e w2 ⟨⟨a, cap, rfl, hd⟩, hc⟩
  have hb2 := hb1.trans (hc.mono hb1.size); clear hc hb1
  have HD := Lib.hid hd; clear hd
  go_wp2_with fail
  refine (HI.out _ _ (HD.out.below (below1 _ _))).mono ?_
  rintro e w3 ⟨rfl, hc⟩
  have hb3 := (hb2.trans ((below1 w2 _).mono hb2.size)).trans (hc.mono (by have := hb2.size; simp; omega)); clear hc hb2
  go_wp2_with fail
  refine (HT.out _ (HW.out.below hb3)).mono ?_
  rintro e w4 ⟨rfl, hc⟩
  have hb4 := hb3.trans (hc.mono hb3.size); clear hc hb3
  go_wp2_with fail
  refine (lives_any _ (HW.out.below hb4)).mono ?_
  rintro e w5 ⟨rfl, hc⟩
  have hb5 := hb4.trans (hc.mono hb4.size); clear hc hb4
  go_wp2_with fail
  go_ret
  exact ⟨rfl, hb5⟩
set_option maxRecDepth 100000 in
set_option maxHeartbeats 1000000 in
theorem lawParse_out (l : List UInt8) (w : World) (hw : Laid w) (hs : l.length ≤ 100) (h : Form l) (ho : ¬ (-9223372036854775808 ≤ textVal l ∧ textVal l ≤ 9223372036854775807)) :
    Calls Tryd.prog 7 #[.string ⟨⟨l⟩⟩] w fun e w' => e = .returned (.bool true) ∧ Below w.heap.size w w' := by
  have HW := Lib.hid hw; clear hw
  have hp := fun w1 k => parse_out ⟨⟨l⟩⟩ w1 k (by show l.length ≤ _; omega) h ho
  have HP := Lib.hid hp; clear hp
  have hr := fun w1 => ref_parse_yes l (by omega) h w1
  have HR := Lib.hid hr; clear hr
  have hl := textVal_len l h
  have hi := fun va w1 (k : Digs w1 va (dg (textVal l).natAbs)) => is_out (textVal l) va w1 k (by omega) ho
  have HI := Lib.hid hi; clear hi
  have h2 : ¬ 100 < ((ByteArray.mk ⟨l⟩).size : Int) := by show ¬ 100 < (l.length : Int); omega
  clear hl
  generalize textVal l = x at *
  generalize hS : ByteArray.mk ⟨l⟩ = S at *
  clear hS hs h
  go_enter Tryd.func7, Tryd.ntmps7
  go_wp2_with fail
  refine (HP.out _ HW.out).mono ?_
  rintro e w1 ⟨rfl, hb1⟩
  go_wp2_with fail
  refine (HR.out _).mono ?_
  rintro e w2 ⟨⟨a, cap, rfl, hd⟩, hc⟩
  have hb2 := hb1.trans (hc.mono hb1.size); clear hc hb1
  have HD := Lib.hid hd; clear hd
  go_wp2_with fail
  refine (HI.out _ _ (HD.out.below (below1 _ _))).mono ?_
  rintro e w3 ⟨rfl, hc⟩
  have hb3 := (hb2.trans ((below1 w2 _).mono hb2.size)).trans (hc.mono (by have := hb2.size; simp; omega)); clear hc hb2
  go_wp2_with fail
  refine (lives_any _ (HW.out.below hb3)).mono ?_
  rintro e w5 ⟨rfl, hc⟩
  have hb5 := hb3.trans (hc.mono hb3.size); clear hc hb3
  go_wp2_with fail
  go_ret
  exact ⟨rfl, hb5⟩
theorem lawParse_any (s : ByteArray) (w : World) (hw : Laid w) :
    Calls Tryd.prog 7 #[.string s] w fun e w' => e = .returned (.bool true) ∧ Below w.heap.size w w' := by
  by_cases hs : 100 < s.size
  · exact lawParse_long s w hw (by omega)
  · obtain ⟨⟨l⟩⟩ := s
    have hl : l.length ≤ 100 := Nat.le_of_not_lt hs
    by_cases h : Form l
    · by_cases hx : -9223372036854775808 ≤ textVal l ∧ textVal l ≤ 9223372036854775807
      · exact lawParse_in l w hw hl h hx.1 hx.2
      · exact lawParse_out l w hw hl h hx
    · exact lawParse_no l w hw hl h
end Go.Proofs.YtadnehnhgnfclaaDoor
