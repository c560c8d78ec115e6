/-
  DERIVED. WALK of the law IntsSums.
-/
import Derived.Test.YtadnehnhgnfclaaDoorRefMul
import Derived.Test.YtadnehnhgnfclaaDoorRefInt
import Derived.Test.YtadnehnhgnfclaaDoorLives
import Derived.Deep.RegionHeld3
namespace Go.Proofs.YtadnehnhgnfclaaDoor
open Go.RowKit Go.Deep

def fits (z : Int) : Prop := -9223372036854775808 ≤ z ∧ z ≤ 9223372036854775807
/-- what the program returns for the whole number z: z itself and 0, or 0 and 15 -/
def Kept (z s e : Int) : Prop := (fits z ∧ s = z ∧ e = 0) ∨ (¬ fits z ∧ s = 0 ∧ e = 15)
def IsOk (z s e : Int) : Prop := ∀ va w, Digs w va (dg z.natAbs) → Calls Tryd.prog 13 #[.int .i64 s, .int .i64 e, .agg #[.bool (decide (z < 0)), va]] w fun e w' => e = .returned (.bool true) ∧ Below w.heap.size w w'
def Does (f : FuncId) (a b s e : Int) : Prop := ∀ w, Calls Tryd.prog f #[.int .i64 a, .int .i64 b] w fun x w' => x = .returned (two s e) ∧ Below w.heap.size w w'
theorem len64 {a : Int} (h : fits a) : (dg a.natAbs).length ≤ 1000 := by
  have := dg_length_le a.natAbs 19 (by unfold fits at h; omega)
  omega
theorem is_pack (z s e : Int) (hz : (dg z.natAbs).length ≤ 1000) (h : Kept z s e) : IsOk z s e := by
  intro va w hd
  rcases h with ⟨h, rfl, rfl⟩ | ⟨h, rfl, rfl⟩
  · exact is_in _ va w hd hz h.1 h.2
  · exact is_out z va w hd hz h
theorem add_pack (a b : Int) (ha : fits a) (hb : fits b) : ∃ s e, Kept (a + b) s e ∧ Does 10 a b s e := by
  by_cases h : fits (a + b)
  · exact ⟨a + b, 0, .inl ⟨h, rfl, rfl⟩, fun w => add_in a b w h.1 h.2 ha.1 ha.2 hb.1 hb.2⟩
  · exact ⟨0, 15, .inr ⟨h, rfl, rfl⟩, fun w => add_out a b w ha.1 ha.2 hb.1 hb.2 h⟩
theorem sub_pack (a b : Int) (ha : fits a) (hb : fits b) : ∃ s e, Kept (a - b) s e ∧ Does 11 a b s e := by
  by_cases h : fits (a - b)
  · exact ⟨a - b, 0, .inl ⟨h, rfl, rfl⟩, fun w => sub_in a b w h.1 h.2 ha.1 ha.2 hb.1 hb.2⟩
  · exact ⟨0, 15, .inr ⟨h, rfl, rfl⟩, fun w => sub_out a b w ha.1 ha.2 hb.1 hb.2 h⟩
theorem mul_pack (a b : Int) (ha : fits a) (hb : fits b) : ∃ s e, Kept (a * b) s e ∧ Does 12 a b s e := by
  by_cases h : fits (a * b)
  · exact ⟨a * b, 0, .inl ⟨h, rfl, rfl⟩, fun w => mul_in a b w ha.1 ha.2 hb.1 hb.2 h.1 h.2⟩
  · exact ⟨0, 15, .inr ⟨h, rfl, rfl⟩, fun w => mul_out a b w ha.1 ha.2 hb.1 hb.2 h⟩
theorem Kept.same {z s e s' e' : Int} (h : Kept z s e) (h' : Kept z s' e') : s' = s ∧ e' = e := by
  rcases h with ⟨h1, rfl, rfl⟩ | ⟨h1, rfl, rfl⟩ <;> rcases h' with ⟨h2, rfl, rfl⟩ | ⟨h2, rfl, rfl⟩
  · exact ⟨rfl, rfl⟩
  · exact absurd h1 h2
  · exact absurd h2 h1
  · exact ⟨rfl, rfl⟩
theorem Kept.fits {z s e : Int} (h : Kept z s e) : fits s := by
  rcases h with ⟨h1, rfl, _⟩ | ⟨_, rfl, _⟩
  · exact h1
  · exact ⟨by omega, by omega⟩
theorem len_mul {a b : Int} (ha : fits a) (hb : fits b) : (dg (a * b).natAbs).length ≤ 1000 := by
  have h1 : a.natAbs ≤ 9223372036854775808 := by unfold fits at ha; omega
  have h2 : b.natAbs ≤ 9223372036854775808 := by unfold fits at hb; omega
  have h3 := Nat.mul_le_mul h1 h2
  rw [← Int.natAbs_mul] at h3
  have := dg_length_le (a * b).natAbs 39 (by omega)
  omega
theorem len_add {a b : Int} (ha : fits a) (hb : fits b) : (dg (a + b).natAbs).length ≤ 1000 := by
  have := dg_length_le (a + b).natAbs 20 (by unfold fits at ha hb; omega)
  omega
theorem len_sub {a b : Int} (ha : fits a) (hb : fits b) : (dg (a + -b).natAbs).length ≤ 1000 := by
  have := dg_length_le (a + -b).natAbs 20 (by unfold fits at ha hb; omega)
  omega
/-- the two numbers, in two blocks one behind the other -/
def Two (P : Nat) (na : Bool) (va : Value) (nb : Bool) (vb : Value) (w : World) : Prop :=
  (w.cell? ⟨P, 0, none⟩ = some (.bool na) ∧ w.cell? ⟨P, 1, none⟩ = some va ∧ w.cell? ⟨P + 1, 0, none⟩ = some (.bool nb) ∧ w.cell? ⟨P + 1, 1, none⟩ = some vb) ∧ P + 1 < w.heap.size
theorem Two.below {P : Nat} {na nb : Bool} {va vb : Value} {w w' : World} (h : Two P na va nb vb w) (hb : Below w.heap.size w w') : Two P na va nb vb w' := by
  obtain ⟨⟨h0, h1, h2, h3⟩, hz⟩ := h
  refine ⟨⟨?_, ?_, ?_, ?_⟩, Nat.lt_of_lt_of_le hz hb.size⟩
  · rw [hb.cell (p := ⟨P, 0, none⟩) (show P < w.heap.size by omega)]; exact h0
  · rw [hb.cell (p := ⟨P, 1, none⟩) (show P < w.heap.size by omega)]; exact h1
  · rw [hb.cell (p := ⟨P + 1, 0, none⟩) (show P + 1 < w.heap.size by omega)]; exact h2
  · rw [hb.cell (p := ⟨P + 1, 1, none⟩) (show P + 1 < w.heap.size by omega)]; exact h3
theorem Two.start (w : World) (na nb : Bool) (va vb : Value) : Two w.heap.size na va nb vb ((w.alloc (.cells #[.bool na, va] NT)).alloc (.cells #[.bool nb, vb] NT)) :=
  ⟨⟨by simp [go_sem], by simp [go_sem], by simp [go_sem], by simp [go_sem]⟩, by simp⟩

set_option maxRecDepth 100000 in
set_option maxHeartbeats 4000000 in
theorem lawSums_any (a b : Int) (w : World) (hw : Laid w) (ha0 : -9223372036854775808 ≤ a) (ha1 : a ≤ 9223372036854775807) (hb0 : -9223372036854775808 ≤ b) (hb1 : b ≤ 9223372036854775807) :
    Calls Tryd.prog 3 #[.int .i64 a, .int .i64 b] w fun e w' => e = .returned (.bool true) ∧ Below w.heap.size w w' := by
  have fa : fits a := ⟨ha0, ha1⟩
  have fb : fits b := ⟨hb0, hb1⟩
  have HW := Lib.hid hw; clear hw
  obtain ⟨s, e, ks, das⟩ := add_pack a b fa fb
  obtain ⟨d, f, kd, dsu⟩ := sub_pack a b fa fb
  rw [Int.sub_eq_add_neg] at kd
  obtain ⟨p, g, kp, dmu⟩ := mul_pack a b fa fb
  obtain ⟨t, h, kt, dbs⟩ := add_pack b a fb fa
  rw [Int.add_comm b a] at kt
  obtain ⟨rfl, rfl⟩ := ks.same kt
  obtain ⟨back, i, kb, dba⟩ := sub_pack t b ks.fits fb
  have hlast : h = 0 → back = a ∧ i = 0 := by
    intro h0
    rcases ks with ⟨h1, h2, h3⟩ | ⟨h1, h2, h3⟩
    · rcases kb with ⟨h4, h5, h6⟩ | ⟨h4, h5, h6⟩
      · exact ⟨by omega, h6⟩
      · exact absurd (show fits (t - b) by rw [h2]; unfold fits; omega) h4
    · omega
  have LA := len64 fa
  have LB := len64 fb
  have LNB : (dg (-b).natAbs).length ≤ 1000 := by rw [Int.natAbs_neg]; exact LB
  have L1 := len_add fa fb
  have L2 := len_sub fa fb
  have L3 := len_mul fa fb
  have cA := fun (va vb : Value) (w1 : World) (h1 : Digs w1 va (dg a.natAbs)) (h2 : Digs w1 vb (dg b.natAbs)) => ref_add a b va vb w1 h1 h2 LA LB
  have cN := fun (vb : Value) (w1 : World) (h2 : Digs w1 vb (dg b.natAbs)) => neg_any b vb w1 h2
  have cS := fun (va vb : Value) (w1 : World) (h1 : Digs w1 va (dg a.natAbs)) (h2 : Digs w1 vb (dg (-b).natAbs)) => ref_add a (-b) va vb w1 h1 h2 LA LNB
  have cM := fun (va vb : Value) (w1 : World) (h1 : Digs w1 va (dg a.natAbs)) (h2 : Digs w1 vb (dg b.natAbs)) => mul_any a b va vb w1 h1 h2 LA LB
  clear LA LB LNB
  generalize a + b = x1 at *
  generalize -b = nb at *
  generalize a + nb = x2 at *
  generalize a * b = x3 at *
  have I1 := Lib.hid (is_pack _ _ _ L1 ks)
  have I2 := Lib.hid (is_pack _ _ _ L2 kd)
  have I3 := Lib.hid (is_pack _ _ _ L3 kp)
  have cA := Lib.hid cA
  have cN := Lib.hid cN
  have cS := Lib.hid cS
  have cM := Lib.hid cM
  clear L1 L2 L3
  have DA := Lib.hid das
  have DS := Lib.hid dsu
  have DM := Lib.hid dmu
  have DT := Lib.hid dbs
  have DB := Lib.hid dba
  have HL := Lib.hid hlast
  clear das dsu dmu dbs dba hlast ks kd kp kt kb fa fb
  go_enter Tryd.func3, Tryd.ntmps3
  go_wp2_with fail
  refine (of_any a _ ha0 ha1).mono ?_
  rintro e w1 ⟨⟨p1, q1, rfl, hd1, _⟩, hb1'⟩
  have D1 := Lib.hid hd1; clear hd1
  go_wp2_with fail
  refine (of_any b _ hb0 hb1).mono ?_
  rintro e w2 ⟨⟨p2, q2, rfl, hd2, _⟩, hc⟩
  have D2 := Lib.hid hd2; clear hd2
  have D1 := Lib.hid (D1.out.below hc)
  have hb2 := hb1'.trans (hc.mono hb1'.size); clear hc hb1'
  go_wp2_with fail
  refine (DA.out _).mono ?_
  rintro e w3 ⟨rfl, hb3⟩
  go_wp2_with fail
  refine (DS.out _).mono ?_
  rintro e w4 ⟨rfl, hb4⟩
  go_wp2_with fail
  refine (DM.out _).mono ?_
  rintro e w5 ⟨rfl, hb5⟩
  go_wp2_with fail
  refine (DT.out _).mono ?_
  rintro e w6 ⟨rfl, hb6⟩
  have h36 : Below w3.heap.size w3 w6 := (hb4.trans (hb5.mono hb4.size)).trans (hb6.mono (Nat.le_trans hb4.size hb5.size))
  have h26 : Below (w2.heap.size + 1 + 1) ((w2.alloc (.cells #[.bool (decide (a < 0)), .slice p1 (dg a.natAbs).length q1] NT)).alloc (.cells #[.bool (decide (b < 0)), .slice p2 (dg b.natAbs).length q2] NT)) w6 := (hb3.mono (by simp)).trans (h36.mono (by have := hb3.size; simp at this; omega))
  have Tw6d := ((Two.start w2 (decide (a < 0)) (decide (b < 0)) (.slice p1 (dg a.natAbs).length q1) (.slice p2 (dg b.natAbs).length q2)).below (h26.mono (by simp))).below (Below.refl _ _).drew
  have h2d : Below w2.heap.size w2 w6.drew := (((below2 w2 _ _).trans (h26.mono (by omega)))).drew
  have Aw6d := Lib.hid (D1.out.below h2d)
  have Bw6d := Lib.hid (D2.out.below h2d)
  have Hw6d := Lib.hid (hb2.trans (h2d.mono hb2.size))
  clear hb2 hb3 hb4 hb5 hb6 h36 h26 h2d D1
  have k60 : w6.cell? ⟨w2.heap.size, 0, none⟩ = some (.bool (decide (a < 0))) := Tw6d.1.1
  have k61 : w6.cell? ⟨w2.heap.size, 1, none⟩ = some (.slice p1 (dg a.natAbs).length q1) := Tw6d.1.2.1
  have k62 : w6.cell? ⟨w2.heap.size + 1, 0, none⟩ = some (.bool (decide (b < 0))) := Tw6d.1.2.2.1
  have k63 : w6.cell? ⟨w2.heap.size + 1, 1, none⟩ = some (.slice p2 (dg b.natAbs).length q2) := Tw6d.1.2.2.2
  go_upto_region 6 with fail
  go_region_held3 (fun w' => w'.cell? ⟨w2.heap.size, 0, none⟩ = some (.bool (decide (a < 0))) ∧ w'.cell? ⟨w2.heap.size, 1, none⟩ = some (.slice p1 (dg a.natAbs).length q1) ∧ w'.cell? ⟨w2.heap.size + 1, 0, none⟩ = some (.bool (decide (b < 0))) ∧ w'.cell? ⟨w2.heap.size + 1, 1, none⟩ = some (.slice p2 (dg b.natAbs).length q2)) (first | go_keep | (first | exact ⟨kw70, kw71, kw72, kw73⟩ | exact ⟨kw80, kw81, kw82, kw83⟩ | exact ⟨kw90, kw91, kw92, kw93⟩ | exact ⟨kw100, kw101, kw102, kw103⟩ | exact ⟨kw110, kw111, kw112, kw113⟩ | exact ⟨kw120, kw121, kw122, kw123⟩ | exact ⟨kw130, kw131, kw132, kw133⟩))
    (first
      | (go_at_call 14; (with_reducible show Calls _ _ _ w6.drew _); refine (cA.out _ _ w6.drew Aw6d.out Bw6d.out).mono ?_; rintro e w7 ⟨⟨a7, q7, rfl, hd, _⟩, hb⟩; have Tw7 := Tw6d.below hb; have Aw7 := Lib.hid (Aw6d.out.below hb); have Bw7 := Lib.hid (Bw6d.out.below hb); have Hw7 := Lib.hid (Hw6d.out.trans (hb.mono Hw6d.out.size)); obtain ⟨⟨kw70, kw71, kw72, kw73⟩, _⟩ := Tw7; have Tw7 : Two w2.heap.size (decide (a < 0)) (.slice p1 (dg a.natAbs).length q1) (decide (b < 0)) (.slice p2 (dg b.natAbs).length q2) w7 := ⟨⟨kw70, kw71, kw72, kw73⟩, by assumption⟩; have D7 := Lib.hid hd; clear hd; clear hb)
      | (go_at_call 13; (with_reducible show Calls _ _ _ w7 _); refine (I1.out _ w7 D7.out).mono ?_; rintro e w8 ⟨rfl, hb⟩; have Tw8 := Tw7.below hb; have Aw8 := Lib.hid (Aw7.out.below hb); have Bw8 := Lib.hid (Bw7.out.below hb); have Hw8 := Lib.hid (Hw7.out.trans (hb.mono Hw7.out.size)); obtain ⟨⟨kw80, kw81, kw82, kw83⟩, _⟩ := Tw8; have Tw8 : Two w2.heap.size (decide (a < 0)) (.slice p1 (dg a.natAbs).length q1) (decide (b < 0)) (.slice p2 (dg b.natAbs).length q2) w8 := ⟨⟨kw80, kw81, kw82, kw83⟩, by assumption⟩; clear hb)
      | (go_at_call 15; (with_reducible show Calls _ _ _ w8 _); refine (cN.out _ w8 Bw8.out).mono ?_; rintro e w9 ⟨⟨a9, q9, rfl, hd, _⟩, hb⟩; have Tw9 := Tw8.below hb; have Aw9 := Lib.hid (Aw8.out.below hb); have Bw9 := Lib.hid (Bw8.out.below hb); have Hw9 := Lib.hid (Hw8.out.trans (hb.mono Hw8.out.size)); obtain ⟨⟨kw90, kw91, kw92, kw93⟩, _⟩ := Tw9; have Tw9 : Two w2.heap.size (decide (a < 0)) (.slice p1 (dg a.natAbs).length q1) (decide (b < 0)) (.slice p2 (dg b.natAbs).length q2) w9 := ⟨⟨kw90, kw91, kw92, kw93⟩, by assumption⟩; have D9 := Lib.hid hd; clear hd; clear hb)
      | (go_at_call 14; (with_reducible show Calls _ _ _ w9 _); refine (cS.out _ _ w9 Aw9.out D9.out).mono ?_; rintro e w10 ⟨⟨a10, q10, rfl, hd, _⟩, hb⟩; have Tw10 := Tw9.below hb; have Aw10 := Lib.hid (Aw9.out.below hb); have Bw10 := Lib.hid (Bw9.out.below hb); have Hw10 := Lib.hid (Hw9.out.trans (hb.mono Hw9.out.size)); obtain ⟨⟨kw100, kw101, kw102, kw103⟩, _⟩ := Tw10; have Tw10 : Two w2.heap.size (decide (a < 0)) (.slice p1 (dg a.natAbs).length q1) (decide (b < 0)) (.slice p2 (dg b.natAbs).length q2) w10 := ⟨⟨kw100, kw101, kw102, kw103⟩, by assumption⟩; have D10 := Lib.hid hd; clear hd; clear hb)
      | (go_at_call 13; (with_reducible show Calls _ _ _ w10 _); refine (I2.out _ w10 D10.out).mono ?_; rintro e w11 ⟨rfl, hb⟩; have Tw11 := Tw10.below hb; have Aw11 := Lib.hid (Aw10.out.below hb); have Bw11 := Lib.hid (Bw10.out.below hb); have Hw11 := Lib.hid (Hw10.out.trans (hb.mono Hw10.out.size)); obtain ⟨⟨kw110, kw111, kw112, kw113⟩, _⟩ := Tw11; have Tw11 : Two w2.heap.size (decide (a < 0)) (.slice p1 (dg a.natAbs).length q1) (decide (b < 0)) (.slice p2 (dg b.natAbs).length q2) w11 := ⟨⟨kw110, kw111, kw112, kw113⟩, by assumption⟩; clear hb)
      | (go_at_call 16; (with_reducible show Calls _ _ _ w11 _); refine (cM.out _ _ w11 Aw11.out Bw11.out).mono ?_; rintro e w12 ⟨⟨a12, q12, rfl, hd, _⟩, hb⟩; have Tw12 := Tw11.below hb; have Aw12 := Lib.hid (Aw11.out.below hb); have Bw12 := Lib.hid (Bw11.out.below hb); have Hw12 := Lib.hid (Hw11.out.trans (hb.mono Hw11.out.size)); obtain ⟨⟨kw120, kw121, kw122, kw123⟩, _⟩ := Tw12; have Tw12 : Two w2.heap.size (decide (a < 0)) (.slice p1 (dg a.natAbs).length q1) (decide (b < 0)) (.slice p2 (dg b.natAbs).length q2) w12 := ⟨⟨kw120, kw121, kw122, kw123⟩, by assumption⟩; have D12 := Lib.hid hd; clear hd; clear hb)
      | (go_at_call 13; (with_reducible show Calls _ _ _ w12 _); refine (I3.out _ w12 D12.out).mono ?_; rintro e w13 ⟨rfl, hb⟩; have Tw13 := Tw12.below hb; have Aw13 := Lib.hid (Aw12.out.below hb); have Bw13 := Lib.hid (Bw12.out.below hb); have Hw13 := Lib.hid (Hw12.out.trans (hb.mono Hw12.out.size)); obtain ⟨⟨kw130, kw131, kw132, kw133⟩, _⟩ := Tw13; have Tw13 : Two w2.heap.size (decide (a < 0)) (.slice p1 (dg a.natAbs).length q1) (decide (b < 0)) (.slice p2 (dg b.natAbs).length q2) w13 := ⟨⟨kw130, kw131, kw132, kw133⟩, by assumption⟩; clear hb))
  clear k60 k61 k62 k63 Tw6d Aw6d Bw6d Hw6d
  by_cases hh : h = 0
  · have DB2 := DB.out
    rw [(HL.out hh).1, (HL.out hh).2] at DB2
    have DB2 := Lib.hid DB2
    subst hh
    go_wp2_with fail
    refine (DB2.out _).mono ?_
    rintro e w14 ⟨rfl, hb14⟩
    have h14 := Hw13.out.trans (hb14.mono Hw13.out.size)
    clear hb14
    go_wp2_with fail
    refine (gives_same _ _).mono ?_
    rintro e w' ⟨rfl, rfl⟩
    go_wp2_with fail
    refine (lives_any _ (HW.out.below h14)).mono ?_
    rintro e w15 ⟨rfl, hc⟩
    have h15 := h14.trans (hc.mono h14.size); clear hc h14
    go_wp2_with fail
    go_ret
    exact ⟨rfl, h15⟩
  · have hh2 : (h == 0) = false := beq_eq_false_iff_ne.2 hh
    go_wp2_with fail
    refine (DB.out _).mono ?_
    rintro e w14 ⟨rfl, hb14⟩
    have h14 := Hw13.out.trans (hb14.mono Hw13.out.size)
    clear hb14
    go_wp2_with fail
    refine (lives_any _ (HW.out.below h14)).mono ?_
    rintro e w15 ⟨rfl, hc⟩
    have h15 := h14.trans (hc.mono h14.size); clear hc h14
    go_wp2_with fail
    go_ret
    exact ⟨rfl, h15⟩
end Go.Proofs.YtadnehnhgnfclaaDoor
