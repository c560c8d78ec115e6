/-
  DERIVED. WALK of the law MasksCommon, given the contracts of package masks. Written by mkmkcommonlaw.py.
-/
import Derived.Test.YtabhfpfnaaihjaaMkErrors
import Derived.Test.YtabhfpfnaaihjaaMkOfDet
import Derived.Test.YtabhfpfnaaihjaaMkDig
import Derived.Deep.RegionHeld3
import Derived.Deep.Cut
namespace Go.Proofs.Ytabhfpfnaaihjaa
open Go.RowKit

theorem RowU8.below {w w' : World} {p : Option Addr} {len : Nat} {z : Nat → Int} (h : RowU8 w p len z) (hb : Below w.heap.size w w') : RowU8 w' p len z := by
  rcases h with rfl | ⟨b, off, rfl, hbb, hz⟩
  · exact .inl rfl
  · exact .inr ⟨b, off, rfl, Nat.lt_of_lt_of_le hbb hb.size, fun k hk => by rw [hb.cell (p := ⟨b, off + k, none⟩) hbb]; exact hz k hk⟩
theorem comE_comm (a b : ByteArray) : comE a b = comE b a := by
  unfold comE
  by_cases h : a.size = b.size
  · rw [if_pos h, if_pos h.symm, comOk_comm, comS_comm]
  · rw [if_neg h, if_neg (fun e => h e.symm)]
theorem textOf_any (n : Int) (h0 : -9223372036854775808 ≤ n) (h1 : n ≤ 9223372036854775807) : (dg n.natAbs).length ≤ 1000 := by
  have := dg_length_le n.natAbs 19 (by
    have : (10 : Nat) ^ 19 = 10000000000000000000 := by decide
    omega)
  omega
/-- both masks, as the law begins -/
structure Both (w : World) (k : Nat) (p : Option Addr) (len cap : Nat) (z : Nat → Int) (q : Option Addr) (len2 cap2 : Nat) (z2 : Nat → Int) : Prop where
  c0 : w.cell? ⟨k, 0, none⟩ = some (.slice p len cap)
  c1 : w.cell? ⟨k + 1, 0, none⟩ = some (.slice q len2 cap2)
  s : k + 1 < w.heap.size
  r0 : RowU8 w p len z
  r1 : RowU8 w q len2 z2
theorem Both.below {w w' : World} {k : Nat} {p : Option Addr} {len cap : Nat} {z : Nat → Int} {q : Option Addr} {len2 cap2 : Nat} {z2 : Nat → Int} (h : Both w k p len cap z q len2 cap2 z2) (hb : Below w.heap.size w w') : Both w' k p len cap z q len2 cap2 z2 :=
  ⟨by rw [hb.cell (p := ⟨k, 0, none⟩) (by have := h.s; show k < _; omega)]; exact h.c0, by rw [hb.cell (p := ⟨k + 1, 0, none⟩) h.s]; exact h.c1, Nat.lt_of_lt_of_le h.s hb.size, h.r0.below hb, h.r1.below hb⟩
set_option maxRecDepth 100000 in
set_option maxHeartbeats 8000000 in
theorem lawCommon_len (C : MaskFns) (D : MaskBad) {p : Option Addr} {len cap : Nat} {z : Nat → Int} {q : Option Addr} {len2 cap2 : Nat} {z2 : Nat → Int} (n : Int) (w : World) (hl : (len : Int) ≤ 9223372036854775807) (hr : RowU8 w p len z)
    (hl2 : (len2 : Int) ≤ 9223372036854775807) (hr2 : RowU8 w q len2 z2) (n0 : -9223372036854775808 ≤ n) (n1 : n ≤ 9223372036854775807)
    (hne : ¬ (ofS len z).size = (ofS len2 z2).size) :
    Calls Try.prog 5 #[.agg #[.slice p len cap], .agg #[.slice q len2 cap2], .int .i64 n] w fun e w' => e = .returned (.bool true) ∧ Below w.heap.size w w' := by
  have HL := Kp.mk hl
  have HL2 := Kp.mk hl2
  have ha := mk_ofS len z
  have hb := mk_ofS len2 z2
  have HO : Kp (∀ w, RowU8 w p len z → Calls Try.prog 8 #[.agg #[.slice p len cap]] w fun e w' => e = .returned (.string (ofS len z)) ∧ Below w.heap.size w w') := Kp.mk (fun w h => of_is w hl h)
  have HO2 : Kp (∀ w, RowU8 w q len2 z2 → Calls Try.prog 8 #[.agg #[.slice q len2 cap2]] w fun e w' => e = .returned (.string (ofS len2 z2)) ∧ Below w.heap.size w w') := Kp.mk (fun w h => of_is w hl2 h)
  generalize ofS len z = a at *
  generalize ofS len2 z2 = b at *
  obtain ⟨⟨u, x⟩, eu⟩ : ∃ x, comE a b = x := ⟨_, rfl⟩
  have r1 := Kp.mk (fun w => D.common w ha hb eu)
  have r2 := Kp.mk (fun w => D.common w hb ha ((comE_comm b a).trans eu))
  have HLV := Kp.mk C.lives
  obtain ⟨pa, epa⟩ : ∃ c, hasI (codes a) n = c := ⟨_, rfl⟩
  obtain ⟨pb, epb⟩ : ∃ c, hasI (codes b) n = c := ⟨_, rfl⟩
  have hHa := Kp.mk (fun w => C.has w ha n0 n1 epa)
  have hHb := Kp.mk (fun w => C.has w hb n0 n1 epb)
  have HBo : Kp (Both ((w.alloc (.cells #[.slice p len cap] 24)).alloc (.cells #[.slice q len2 cap2] 24)) w.heap.size p len cap z q len2 cap2 z2) := Kp.mk ⟨by simp [go_sem], by simp [go_sem], by simp, (hr.alloc _).alloc _, (hr2.alloc _).alloc _⟩
  have HBw : Kp (Below w.heap.size w ((w.alloc (.cells #[.slice p len cap] 24)).alloc (.cells #[.slice q len2 cap2] 24))) := Kp.mk (((Below.refl w.heap.size w).alloc (Nat.le_refl _) _).alloc (by simp) _)
  have b1 : ((a.size : Int) != (b.size : Int)) = true := by rw [bne_iff_ne]; omega
  have hu : u = ⟨#[]⟩ ∧ x = 1 := by unfold comE at eu; rw [if_neg hne] at eu; cases eu; exact ⟨rfl, rfl⟩
  obtain ⟨rfl, rfl⟩ := hu
  clear eu ha hb epa epb n0 n1 C D hne
  clear hl hl2 hr hr2
  go_enter Try.func5, Try.ntmps5
  go_upto_region 1 with fail
  generalize ((w.alloc (.cells #[.slice p len cap] 24)).alloc (.cells #[.slice q len2 cap2] 24)) = w0 at *
  have k60 : w0.cell? ⟨w.heap.size, 0, none⟩ = some (.slice p len cap) := HBo.out.c0
  have k61 : w0.cell? ⟨w.heap.size + 1, 0, none⟩ = some (.slice q len2 cap2) := HBo.out.c1
  have HBo0 : Kp (Both w0.drew w.heap.size p len cap z q len2 cap2 z2) := Kp.mk (HBo.out.below (Below.drew (Below.refl _ _)))
  have HBw0 : Kp (Below w.heap.size w w0.drew) := Kp.mk (Below.drew HBw.out)
  go_region_held3 (fun w' => w'.cell? ⟨w.heap.size, 0, none⟩ = some (.slice p len cap) ∧ w'.cell? ⟨w.heap.size + 1, 0, none⟩ = some (.slice q len2 cap2)) (first | go_keep | (first | exact ⟨ka0, ka1⟩ | exact ⟨kb0, kb1⟩))
    (first
      | (go_at_call 8; (with_reducible show Calls _ _ _ w0.drew _); refine (HO.out _ HBo0.out.r0).mono ?_; rintro e wa ⟨rfl, hb⟩; have HBa := Kp.mk (HBo0.out.below hb); have HWa := Kp.mk (HBw0.out.trans (hb.mono HBw0.out.size)); have ka0 := HBa.out.c0; have ka1 := HBa.out.c1; clear hb)
      | (go_at_call 8; (with_reducible show Calls _ _ _ wa _); refine (HO2.out _ HBa.out.r1).mono ?_; rintro e wb ⟨rfl, hb⟩; have HBb := Kp.mk (HBa.out.below hb); have HWb := Kp.mk (HWa.out.trans (hb.mono HWa.out.size)); have kb0 := HBb.out.c0; have kb1 := HBb.out.c1; clear hb))
  go_wp2_with fail
  refine (r1.out _).mono ?_
  rintro e v1 ⟨rfl, hb1⟩
  have HB1 := Kp.mk (HWb.out.trans (hb1.mono HWb.out.size))
  clear hb1
  go_wp2_with fail
  refine (r2.out _).mono ?_
  rintro e v2 ⟨rfl, hb2⟩
  have HB2 := Kp.mk (HB1.out.trans (hb2.mono HB1.out.size))
  clear hb2
  go_wp2_with fail
  refine (HLV.out _).mono ?_
  rintro e w' ⟨rfl, hbl⟩
  have HB2 := Kp.mk (HB2.out.trans (hbl.mono HB2.out.size))
  clear hbl
  go_wp2_with fail
  go_ret
  exact ⟨rfl, HB2.out⟩
set_option maxRecDepth 100000 in
set_option maxHeartbeats 8000000 in
theorem lawCommon_no (C : MaskFns) (D : MaskBad) {p : Option Addr} {len cap : Nat} {z : Nat → Int} {q : Option Addr} {len2 cap2 : Nat} {z2 : Nat → Int} (n : Int) (w : World) (hl : (len : Int) ≤ 9223372036854775807) (hr : RowU8 w p len z)
    (hl2 : (len2 : Int) ≤ 9223372036854775807) (hr2 : RowU8 w q len2 z2) (n0 : -9223372036854775808 ≤ n) (n1 : n ≤ 9223372036854775807)
    (hs : (ofS len2 z2).size = (ofS len z).size) (hok : comOk (fwd (ofS len z)) (fwd (ofS len2 z2)) = false) :
    Calls Try.prog 5 #[.agg #[.slice p len cap], .agg #[.slice q len2 cap2], .int .i64 n] w fun e w' => e = .returned (.bool true) ∧ Below w.heap.size w w' := by
  have HL := Kp.mk hl
  have HL2 := Kp.mk hl2
  have ha := mk_ofS len z
  have hb := mk_ofS len2 z2
  have HO : Kp (∀ w, RowU8 w p len z → Calls Try.prog 8 #[.agg #[.slice p len cap]] w fun e w' => e = .returned (.string (ofS len z)) ∧ Below w.heap.size w w') := Kp.mk (fun w h => of_is w hl h)
  have HO2 : Kp (∀ w, RowU8 w q len2 z2 → Calls Try.prog 8 #[.agg #[.slice q len2 cap2]] w fun e w' => e = .returned (.string (ofS len2 z2)) ∧ Below w.heap.size w w') := Kp.mk (fun w h => of_is w hl2 h)
  generalize ofS len z = a at *
  generalize ofS len2 z2 = b at *
  obtain ⟨⟨u, x⟩, eu⟩ : ∃ x, comE a b = x := ⟨_, rfl⟩
  have r1 := Kp.mk (fun w => D.common w ha hb eu)
  have r2 := Kp.mk (fun w => D.common w hb ha ((comE_comm b a).trans eu))
  have HLV := Kp.mk C.lives
  obtain ⟨pa, epa⟩ : ∃ c, hasI (codes a) n = c := ⟨_, rfl⟩
  obtain ⟨pb, epb⟩ : ∃ c, hasI (codes b) n = c := ⟨_, rfl⟩
  have hHa := Kp.mk (fun w => C.has w ha n0 n1 epa)
  have hHb := Kp.mk (fun w => C.has w hb n0 n1 epb)
  have HBo : Kp (Both ((w.alloc (.cells #[.slice p len cap] 24)).alloc (.cells #[.slice q len2 cap2] 24)) w.heap.size p len cap z q len2 cap2 z2) := Kp.mk ⟨by simp [go_sem], by simp [go_sem], by simp, (hr.alloc _).alloc _, (hr2.alloc _).alloc _⟩
  have HBw : Kp (Below w.heap.size w ((w.alloc (.cells #[.slice p len cap] 24)).alloc (.cells #[.slice q len2 cap2] 24))) := Kp.mk (((Below.refl w.heap.size w).alloc (Nat.le_refl _) _).alloc (by simp) _)
  have b1 : ((a.size : Int) != (b.size : Int)) = false := by rw [bne_eq_false_iff_eq]; omega
  have r3 := Kp.mk (fun w => refCommon_is (a := a) (b := b) w ha.one ha.most hs)
  have hu : u = ⟨#[]⟩ ∧ x = 16 := by unfold comE at eu; rw [if_pos hs.symm, hok, if_neg (by decide)] at eu; cases eu; exact ⟨rfl, rfl⟩
  obtain ⟨rfl, rfl⟩ := hu
  have hno := (has_comS ha hb hs n).2 hok
  rw [epa, epb] at hno
  rw [hok] at r3
  generalize comS a b = y at *
  clear eu ha hb epa epb n0 n1 C D hs hok
  clear hl hl2 hr hr2
  go_enter Try.func5, Try.ntmps5
  go_upto_region 1 with fail
  generalize ((w.alloc (.cells #[.slice p len cap] 24)).alloc (.cells #[.slice q len2 cap2] 24)) = w0 at *
  have k60 : w0.cell? ⟨w.heap.size, 0, none⟩ = some (.slice p len cap) := HBo.out.c0
  have k61 : w0.cell? ⟨w.heap.size + 1, 0, none⟩ = some (.slice q len2 cap2) := HBo.out.c1
  have HBo0 : Kp (Both w0.drew w.heap.size p len cap z q len2 cap2 z2) := Kp.mk (HBo.out.below (Below.drew (Below.refl _ _)))
  have HBw0 : Kp (Below w.heap.size w w0.drew) := Kp.mk (Below.drew HBw.out)
  go_region_held3 (fun w' => w'.cell? ⟨w.heap.size, 0, none⟩ = some (.slice p len cap) ∧ w'.cell? ⟨w.heap.size + 1, 0, none⟩ = some (.slice q len2 cap2)) (first | go_keep | (first | exact ⟨ka0, ka1⟩ | exact ⟨kb0, kb1⟩))
    (first
      | (go_at_call 8; (with_reducible show Calls _ _ _ w0.drew _); refine (HO.out _ HBo0.out.r0).mono ?_; rintro e wa ⟨rfl, hb⟩; have HBa := Kp.mk (HBo0.out.below hb); have HWa := Kp.mk (HBw0.out.trans (hb.mono HBw0.out.size)); have ka0 := HBa.out.c0; have ka1 := HBa.out.c1; clear hb)
      | (go_at_call 8; (with_reducible show Calls _ _ _ wa _); refine (HO2.out _ HBa.out.r1).mono ?_; rintro e wb ⟨rfl, hb⟩; have HBb := Kp.mk (HBa.out.below hb); have HWb := Kp.mk (HWa.out.trans (hb.mono HWa.out.size)); have kb0 := HBb.out.c0; have kb1 := HBb.out.c1; clear hb))
  go_wp2_with fail
  refine (r1.out _).mono ?_
  rintro e v1 ⟨rfl, hb1⟩
  have HB1 := Kp.mk (HWb.out.trans (hb1.mono HWb.out.size))
  clear hb1
  go_wp2_with fail
  refine (r2.out _).mono ?_
  rintro e v2 ⟨rfl, hb2⟩
  have HB2 := Kp.mk (HB1.out.trans (hb2.mono HB1.out.size))
  clear hb2
  go_wp2_with fail
  refine (r3.out _).mono ?_
  rintro e v3 ⟨rfl, hb3⟩
  have HB3 := Kp.mk (HB2.out.trans (hb3.mono HB2.out.size))
  clear hb3
  go_wp2_with fail
  refine (hHa.out _).mono ?_
  rintro e w' ⟨rfl, hbl⟩
  have HB3 := Kp.mk (HB3.out.trans (hbl.mono HB3.out.size))
  clear hbl
  cases pa
  · go_wp2_with fail
    refine (HLV.out _).mono ?_
    rintro e w' ⟨rfl, hbl⟩
    have HB2 := Kp.mk (HB3.out.trans (hbl.mono HB3.out.size))
    clear hbl
    go_wp2_with fail
    go_ret
    exact ⟨rfl, HB2.out⟩
  · cases pb
    · go_wp2_with fail
      refine (hHb.out _).mono ?_
      rintro e w' ⟨rfl, hbl⟩
      have HB3 := Kp.mk (HB3.out.trans (hbl.mono HB3.out.size))
      clear hbl
      go_wp2_with fail
      refine (HLV.out _).mono ?_
      rintro e w' ⟨rfl, hbl⟩
      have HB2 := Kp.mk (HB3.out.trans (hbl.mono HB3.out.size))
      clear hbl
      go_wp2_with fail
      go_ret
      exact ⟨rfl, HB2.out⟩
    · cases hno
set_option maxRecDepth 100000 in
set_option maxHeartbeats 8000000 in
theorem lawCommon_neg (C : MaskFns) (D : MaskBad) {p : Option Addr} {len cap : Nat} {z : Nat → Int} {q : Option Addr} {len2 cap2 : Nat} {z2 : Nat → Int} (n : Int) (w : World) (hl : (len : Int) ≤ 9223372036854775807) (hr : RowU8 w p len z)
    (hl2 : (len2 : Int) ≤ 9223372036854775807) (hr2 : RowU8 w q len2 z2) (n0 : -9223372036854775808 ≤ n) (n1 : n ≤ 9223372036854775807)
    (hs : (ofS len2 z2).size = (ofS len z).size) (hok : comOk (fwd (ofS len z)) (fwd (ofS len2 z2)) = true) (hn : n < 0) :
    Calls Try.prog 5 #[.agg #[.slice p len cap], .agg #[.slice q len2 cap2], .int .i64 n] w fun e w' => e = .returned (.bool true) ∧ Below w.heap.size w w' := by
  have HL := Kp.mk hl
  have HL2 := Kp.mk hl2
  have ha := mk_ofS len z
  have hb := mk_ofS len2 z2
  have HO : Kp (∀ w, RowU8 w p len z → Calls Try.prog 8 #[.agg #[.slice p len cap]] w fun e w' => e = .returned (.string (ofS len z)) ∧ Below w.heap.size w w') := Kp.mk (fun w h => of_is w hl h)
  have HO2 : Kp (∀ w, RowU8 w q len2 z2 → Calls Try.prog 8 #[.agg #[.slice q len2 cap2]] w fun e w' => e = .returned (.string (ofS len2 z2)) ∧ Below w.heap.size w w') := Kp.mk (fun w h => of_is w hl2 h)
  generalize ofS len z = a at *
  generalize ofS len2 z2 = b at *
  obtain ⟨⟨u, x⟩, eu⟩ : ∃ x, comE a b = x := ⟨_, rfl⟩
  have r1 := Kp.mk (fun w => D.common w ha hb eu)
  have r2 := Kp.mk (fun w => D.common w hb ha ((comE_comm b a).trans eu))
  have HLV := Kp.mk C.lives
  obtain ⟨pa, epa⟩ : ∃ c, hasI (codes a) n = c := ⟨_, rfl⟩
  obtain ⟨pb, epb⟩ : ∃ c, hasI (codes b) n = c := ⟨_, rfl⟩
  have hHa := Kp.mk (fun w => C.has w ha n0 n1 epa)
  have hHb := Kp.mk (fun w => C.has w hb n0 n1 epb)
  have HBo : Kp (Both ((w.alloc (.cells #[.slice p len cap] 24)).alloc (.cells #[.slice q len2 cap2] 24)) w.heap.size p len cap z q len2 cap2 z2) := Kp.mk ⟨by simp [go_sem], by simp [go_sem], by simp, (hr.alloc _).alloc _, (hr2.alloc _).alloc _⟩
  have HBw : Kp (Below w.heap.size w ((w.alloc (.cells #[.slice p len cap] 24)).alloc (.cells #[.slice q len2 cap2] 24))) := Kp.mk (((Below.refl w.heap.size w).alloc (Nat.le_refl _) _).alloc (by simp) _)
  have b1 : ((a.size : Int) != (b.size : Int)) = false := by rw [bne_eq_false_iff_eq]; omega
  have r3 := Kp.mk (fun w => refCommon_is (a := a) (b := b) w ha.one ha.most hs)
  have hu : u = comS a b ∧ x = 0 := by unfold comE at eu; rw [if_pos hs.symm, if_pos hok] at eu; cases eu; exact ⟨rfl, rfl⟩
  obtain ⟨rfl, rfl⟩ := hu
  have hpc := (has_comS ha hb hs n).1 hok
  rw [epa, epb] at hpc
  have hHs := Kp.mk (fun w => C.has w (mk_comS ha hb hs hok) n0 n1 hpc)
  have rOf := Kp.mk (fun w => R1.of_any n w n0 n1)
  have rTx : Kp (∀ va w, R1.Digs w va (dg n.natAbs) → Calls Try.prog 30 #[.agg #[.bool (decide (n < 0)), va]] w fun e w' => e = .returned (.string (decS n)) ∧ Below w.heap.size w w') := Kp.mk (fun va w h => R1.ref_text n va w h (textOf_any n n0 n1))
  rw [hok] at r3
  generalize comS a b = y at *
  generalize decS n = ds at *
  have HN := Kp.mk hn
  clear eu ha hb epa epb n0 n1 C D hs hok hpc hn
  clear hl hl2 hr hr2
  go_enter Try.func5, Try.ntmps5
  go_upto_region 1 with fail
  generalize ((w.alloc (.cells #[.slice p len cap] 24)).alloc (.cells #[.slice q len2 cap2] 24)) = w0 at *
  have k60 : w0.cell? ⟨w.heap.size, 0, none⟩ = some (.slice p len cap) := HBo.out.c0
  have k61 : w0.cell? ⟨w.heap.size + 1, 0, none⟩ = some (.slice q len2 cap2) := HBo.out.c1
  have HBo0 : Kp (Both w0.drew w.heap.size p len cap z q len2 cap2 z2) := Kp.mk (HBo.out.below (Below.drew (Below.refl _ _)))
  have HBw0 : Kp (Below w.heap.size w w0.drew) := Kp.mk (Below.drew HBw.out)
  go_region_held3 (fun w' => w'.cell? ⟨w.heap.size, 0, none⟩ = some (.slice p len cap) ∧ w'.cell? ⟨w.heap.size + 1, 0, none⟩ = some (.slice q len2 cap2)) (first | go_keep | (first | exact ⟨ka0, ka1⟩ | exact ⟨kb0, kb1⟩))
    (first
      | (go_at_call 8; (with_reducible show Calls _ _ _ w0.drew _); refine (HO.out _ HBo0.out.r0).mono ?_; rintro e wa ⟨rfl, hb⟩; have HBa := Kp.mk (HBo0.out.below hb); have HWa := Kp.mk (HBw0.out.trans (hb.mono HBw0.out.size)); have ka0 := HBa.out.c0; have ka1 := HBa.out.c1; clear hb)
      | (go_at_call 8; (with_reducible show Calls _ _ _ wa _); refine (HO2.out _ HBa.out.r1).mono ?_; rintro e wb ⟨rfl, hb⟩; have HBb := Kp.mk (HBa.out.below hb); have HWb := Kp.mk (HWa.out.trans (hb.mono HWa.out.size)); have kb0 := HBb.out.c0; have kb1 := HBb.out.c1; clear hb))
  go_wp2_with fail
  refine (r1.out _).mono ?_
  rintro e v1 ⟨rfl, hb1⟩
  have HB1 := Kp.mk (HWb.out.trans (hb1.mono HWb.out.size))
  clear hb1
  go_wp2_with fail
  refine (r2.out _).mono ?_
  rintro e v2 ⟨rfl, hb2⟩
  have HB2 := Kp.mk (HB1.out.trans (hb2.mono HB1.out.size))
  clear hb2
  go_wp2_with fail
  refine (r3.out _).mono ?_
  rintro e v3 ⟨rfl, hb3⟩
  have HB3 := Kp.mk (HB2.out.trans (hb3.mono HB2.out.size))
  clear hb3
  go_wp2_with fail
  refine (hHs.out _).mono ?_
  rintro e w' ⟨rfl, hbl⟩
  have HB3 := Kp.mk (HB3.out.trans (hbl.mono HB3.out.size))
  clear hbl
  go_wp2_with fail
  refine (hHa.out _).mono ?_
  rintro e w' ⟨rfl, hbl⟩
  have HB3 := Kp.mk (HB3.out.trans (hbl.mono HB3.out.size))
  clear hbl
  cases pa
  · go_wp2_with fail
    refine (rOf.out _).mono ?_
    rintro e vo ⟨⟨ao, co, rfl, hdo, _⟩, hbo⟩
    have HDo := Kp.mk hdo
    have HBo1 := Kp.mk (HB3.out.trans (hbo.mono HB3.out.size))
    clear hbo hdo
    generalize (dg n.natAbs).length = lno at *
    go_wp2_with fail
    refine (rTx.out _ _ HDo.out).mono ?_
    rintro e vt ⟨rfl, hbt⟩
    have HBt := Kp.mk (HBo1.out.trans (hbt.mono HBo1.out.size))
    clear hbt
    have hn := HN.out
    go_wp2_with fail
    refine (HLV.out _).mono ?_
    rintro e w' ⟨rfl, hbl⟩
    have HB2 := Kp.mk (HBt.out.trans (hbl.mono HBt.out.size))
    clear hbl
    go_wp2_with fail
    go_ret
    exact ⟨rfl, HB2.out⟩
  · go_wp2_with fail
    refine (hHb.out _).mono ?_
    rintro e w' ⟨rfl, hbl⟩
    have HB3 := Kp.mk (HB3.out.trans (hbl.mono HB3.out.size))
    clear hbl
    cases pb
    · go_wp2_with fail
      refine (rOf.out _).mono ?_
      rintro e vo ⟨⟨ao, co, rfl, hdo, _⟩, hbo⟩
      have HDo := Kp.mk hdo
      have HBo1 := Kp.mk (HB3.out.trans (hbo.mono HB3.out.size))
      clear hbo hdo
      generalize (dg n.natAbs).length = lno at *
      go_wp2_with fail
      refine (rTx.out _ _ HDo.out).mono ?_
      rintro e vt ⟨rfl, hbt⟩
      have HBt := Kp.mk (HBo1.out.trans (hbt.mono HBo1.out.size))
      clear hbt
      have hn := HN.out
      go_wp2_with fail
      refine (HLV.out _).mono ?_
      rintro e w' ⟨rfl, hbl⟩
      have HB2 := Kp.mk (HBt.out.trans (hbl.mono HBt.out.size))
      clear hbl
      go_wp2_with fail
      go_ret
      exact ⟨rfl, HB2.out⟩
    · go_wp2_with fail
      refine (rOf.out _).mono ?_
      rintro e vo ⟨⟨ao, co, rfl, hdo, _⟩, hbo⟩
      have HDo := Kp.mk hdo
      have HBo1 := Kp.mk (HB3.out.trans (hbo.mono HB3.out.size))
      clear hbo hdo
      generalize (dg n.natAbs).length = lno at *
      go_wp2_with fail
      refine (rTx.out _ _ HDo.out).mono ?_
      rintro e vt ⟨rfl, hbt⟩
      have HBt := Kp.mk (HBo1.out.trans (hbt.mono HBo1.out.size))
      clear hbt
      have hn := HN.out
      go_wp2_with fail
      refine (HLV.out _).mono ?_
      rintro e w' ⟨rfl, hbl⟩
      have HB2 := Kp.mk (HBt.out.trans (hbl.mono HBt.out.size))
      clear hbl
      go_wp2_with fail
      go_ret
      exact ⟨rfl, HB2.out⟩
set_option maxRecDepth 100000 in
set_option maxHeartbeats 8000000 in
theorem lawCommon_far (C : MaskFns) (D : MaskBad) {p : Option Addr} {len cap : Nat} {z : Nat → Int} {q : Option Addr} {len2 cap2 : Nat} {z2 : Nat → Int} (n : Int) (w : World) (hl : (len : Int) ≤ 9223372036854775807) (hr : RowU8 w p len z)
    (hl2 : (len2 : Int) ≤ 9223372036854775807) (hr2 : RowU8 w q len2 z2) (n0 : -9223372036854775808 ≤ n) (n1 : n ≤ 9223372036854775807)
    (hs : (ofS len2 z2).size = (ofS len z).size) (hok : comOk (fwd (ofS len z)) (fwd (ofS len2 z2)) = true) (hn : ¬ n < 0) (hd : (ofS len z).size < (decS n).size) :
    Calls Try.prog 5 #[.agg #[.slice p len cap], .agg #[.slice q len2 cap2], .int .i64 n] w fun e w' => e = .returned (.bool true) ∧ Below w.heap.size w w' := by
  have HL := Kp.mk hl
  have HL2 := Kp.mk hl2
  have ha := mk_ofS len z
  have hb := mk_ofS len2 z2
  have HO : Kp (∀ w, RowU8 w p len z → Calls Try.prog 8 #[.agg #[.slice p len cap]] w fun e w' => e = .returned (.string (ofS len z)) ∧ Below w.heap.size w w') := Kp.mk (fun w h => of_is w hl h)
  have HO2 : Kp (∀ w, RowU8 w q len2 z2 → Calls Try.prog 8 #[.agg #[.slice q len2 cap2]] w fun e w' => e = .returned (.string (ofS len2 z2)) ∧ Below w.heap.size w w') := Kp.mk (fun w h => of_is w hl2 h)
  generalize ofS len z = a at *
  generalize ofS len2 z2 = b at *
  obtain ⟨⟨u, x⟩, eu⟩ : ∃ x, comE a b = x := ⟨_, rfl⟩
  have r1 := Kp.mk (fun w => D.common w ha hb eu)
  have r2 := Kp.mk (fun w => D.common w hb ha ((comE_comm b a).trans eu))
  have HLV := Kp.mk C.lives
  obtain ⟨pa, epa⟩ : ∃ c, hasI (codes a) n = c := ⟨_, rfl⟩
  obtain ⟨pb, epb⟩ : ∃ c, hasI (codes b) n = c := ⟨_, rfl⟩
  have hHa := Kp.mk (fun w => C.has w ha n0 n1 epa)
  have hHb := Kp.mk (fun w => C.has w hb n0 n1 epb)
  have HBo : Kp (Both ((w.alloc (.cells #[.slice p len cap] 24)).alloc (.cells #[.slice q len2 cap2] 24)) w.heap.size p len cap z q len2 cap2 z2) := Kp.mk ⟨by simp [go_sem], by simp [go_sem], by simp, (hr.alloc _).alloc _, (hr2.alloc _).alloc _⟩
  have HBw : Kp (Below w.heap.size w ((w.alloc (.cells #[.slice p len cap] 24)).alloc (.cells #[.slice q len2 cap2] 24))) := Kp.mk (((Below.refl w.heap.size w).alloc (Nat.le_refl _) _).alloc (by simp) _)
  have b1 : ((a.size : Int) != (b.size : Int)) = false := by rw [bne_eq_false_iff_eq]; omega
  have r3 := Kp.mk (fun w => refCommon_is (a := a) (b := b) w ha.one ha.most hs)
  have hu : u = comS a b ∧ x = 0 := by unfold comE at eu; rw [if_pos hs.symm, if_pos hok] at eu; cases eu; exact ⟨rfl, rfl⟩
  obtain ⟨rfl, rfl⟩ := hu
  have hpc := (has_comS ha hb hs n).1 hok
  rw [epa, epb] at hpc
  have hHs := Kp.mk (fun w => C.has w (mk_comS ha hb hs hok) n0 n1 hpc)
  have rOf := Kp.mk (fun w => R1.of_any n w n0 n1)
  have rTx : Kp (∀ va w, R1.Digs w va (dg n.natAbs) → Calls Try.prog 30 #[.agg #[.bool (decide (n < 0)), va]] w fun e w' => e = .returned (.string (decS n)) ∧ Below w.heap.size w w') := Kp.mk (fun va w h => R1.ref_text n va w h (textOf_any n n0 n1))
  rw [hok] at r3
  generalize comS a b = y at *
  have b2 : (a.size : Int) < ((decS n).size : Int) := by omega
  generalize decS n = ds at *
  have HN := Kp.mk hn
  clear eu ha hb epa epb n0 n1 C D hs hok hpc hn
  clear hl hl2 hr hr2
  go_enter Try.func5, Try.ntmps5
  go_upto_region 1 with fail
  generalize ((w.alloc (.cells #[.slice p len cap] 24)).alloc (.cells #[.slice q len2 cap2] 24)) = w0 at *
  have k60 : w0.cell? ⟨w.heap.size, 0, none⟩ = some (.slice p len cap) := HBo.out.c0
  have k61 : w0.cell? ⟨w.heap.size + 1, 0, none⟩ = some (.slice q len2 cap2) := HBo.out.c1
  have HBo0 : Kp (Both w0.drew w.heap.size p len cap z q len2 cap2 z2) := Kp.mk (HBo.out.below (Below.drew (Below.refl _ _)))
  have HBw0 : Kp (Below w.heap.size w w0.drew) := Kp.mk (Below.drew HBw.out)
  go_region_held3 (fun w' => w'.cell? ⟨w.heap.size, 0, none⟩ = some (.slice p len cap) ∧ w'.cell? ⟨w.heap.size + 1, 0, none⟩ = some (.slice q len2 cap2)) (first | go_keep | (first | exact ⟨ka0, ka1⟩ | exact ⟨kb0, kb1⟩))
    (first
      | (go_at_call 8; (with_reducible show Calls _ _ _ w0.drew _); refine (HO.out _ HBo0.out.r0).mono ?_; rintro e wa ⟨rfl, hb⟩; have HBa := Kp.mk (HBo0.out.below hb); have HWa := Kp.mk (HBw0.out.trans (hb.mono HBw0.out.size)); have ka0 := HBa.out.c0; have ka1 := HBa.out.c1; clear hb)
      | (go_at_call 8; (with_reducible show Calls _ _ _ wa _); refine (HO2.out _ HBa.out.r1).mono ?_; rintro e wb ⟨rfl, hb⟩; have HBb := Kp.mk (HBa.out.below hb); have HWb := Kp.mk (HWa.out.trans (hb.mono HWa.out.size)); have kb0 := HBb.out.c0; have kb1 := HBb.out.c1; clear hb))
  go_wp2_with fail
  refine (r1.out _).mono ?_
  rintro e v1 ⟨rfl, hb1⟩
  have HB1 := Kp.mk (HWb.out.trans (hb1.mono HWb.out.size))
  clear hb1
  go_wp2_with fail
  refine (r2.out _).mono ?_
  rintro e v2 ⟨rfl, hb2⟩
  have HB2 := Kp.mk (HB1.out.trans (hb2.mono HB1.out.size))
  clear hb2
  go_wp2_with fail
  refine (r3.out _).mono ?_
  rintro e v3 ⟨rfl, hb3⟩
  have HB3 := Kp.mk (HB2.out.trans (hb3.mono HB2.out.size))
  clear hb3
  go_wp2_with fail
  refine (hHs.out _).mono ?_
  rintro e w' ⟨rfl, hbl⟩
  have HB3 := Kp.mk (HB3.out.trans (hbl.mono HB3.out.size))
  clear hbl
  go_wp2_with fail
  refine (hHa.out _).mono ?_
  rintro e w' ⟨rfl, hbl⟩
  have HB3 := Kp.mk (HB3.out.trans (hbl.mono HB3.out.size))
  clear hbl
  cases pa
  · go_wp2_with fail
    refine (rOf.out _).mono ?_
    rintro e vo ⟨⟨ao, co, rfl, hdo, _⟩, hbo⟩
    have HDo := Kp.mk hdo
    have HBo1 := Kp.mk (HB3.out.trans (hbo.mono HB3.out.size))
    clear hbo hdo
    generalize (dg n.natAbs).length = lno at *
    go_wp2_with fail
    refine (rTx.out _ _ HDo.out).mono ?_
    rintro e vt ⟨rfl, hbt⟩
    have HBt := Kp.mk (HBo1.out.trans (hbt.mono HBo1.out.size))
    clear hbt
    have hn := HN.out
    go_wp2_with fail
    refine (HLV.out _).mono ?_
    rintro e w' ⟨rfl, hbl⟩
    have HB2 := Kp.mk (HBt.out.trans (hbl.mono HBt.out.size))
    clear hbl
    go_wp2_with fail
    go_ret
    exact ⟨rfl, HB2.out⟩
  · go_wp2_with fail
    refine (hHb.out _).mono ?_
    rintro e w' ⟨rfl, hbl⟩
    have HB3 := Kp.mk (HB3.out.trans (hbl.mono HB3.out.size))
    clear hbl
    cases pb
    · go_wp2_with fail
      refine (rOf.out _).mono ?_
      rintro e vo ⟨⟨ao, co, rfl, hdo, _⟩, hbo⟩
      have HDo := Kp.mk hdo
      have HBo1 := Kp.mk (HB3.out.trans (hbo.mono HB3.out.size))
      clear hbo hdo
      generalize (dg n.natAbs).length = lno at *
      go_wp2_with fail
      refine (rTx.out _ _ HDo.out).mono ?_
      rintro e vt ⟨rfl, hbt⟩
      have HBt := Kp.mk (HBo1.out.trans (hbt.mono HBo1.out.size))
      clear hbt
      have hn := HN.out
      go_wp2_with fail
      refine (HLV.out _).mono ?_
      rintro e w' ⟨rfl, hbl⟩
      have HB2 := Kp.mk (HBt.out.trans (hbl.mono HBt.out.size))
      clear hbl
      go_wp2_with fail
      go_ret
      exact ⟨rfl, HB2.out⟩
    · go_wp2_with fail
      refine (rOf.out _).mono ?_
      rintro e vo ⟨⟨ao, co, rfl, hdo, _⟩, hbo⟩
      have HDo := Kp.mk hdo
      have HBo1 := Kp.mk (HB3.out.trans (hbo.mono HB3.out.size))
      clear hbo hdo
      generalize (dg n.natAbs).length = lno at *
      go_wp2_with fail
      refine (rTx.out _ _ HDo.out).mono ?_
      rintro e vt ⟨rfl, hbt⟩
      have HBt := Kp.mk (HBo1.out.trans (hbt.mono HBo1.out.size))
      clear hbt
      have hn := HN.out
      go_wp2_with fail
      refine (HLV.out _).mono ?_
      rintro e w' ⟨rfl, hbl⟩
      have HB2 := Kp.mk (HBt.out.trans (hbl.mono HBt.out.size))
      clear hbl
      go_wp2_with fail
      go_ret
      exact ⟨rfl, HB2.out⟩
end Go.Proofs.Ytabhfpfnaaihjaa
