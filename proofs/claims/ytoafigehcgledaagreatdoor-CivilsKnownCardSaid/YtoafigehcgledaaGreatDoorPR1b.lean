/-
  DERIVED. CONTRACT of the reference's Add: other signs; all signs.
  DERIVED. CONTRACT of the reference's Cmp.
  DERIVED. CONTRACT of the reference's Text.
-/
import Derived.Test.YtoafigehcgledaaGreatDoorPR1a
import Derived.Deep.RegionHeld3
import Derived.Deep.DeepCutAuto
import Derived.Lib.ItoaNum
import Derived.Laws.BytesArg
namespace Go.Proofs.YtoafigehcgledaaGreatDoor.R1
open Go.RowKit

theorem sub_step {A B ds : List Nat} {c c2 d X Y : Nat} (h : vl ds + 10 ^ ds.length * vl (A.drop ds.length) + Y = X + 10 ^ ds.length * (c + vl (B.drop ds.length))) (hd : d + at0 B ds.length + c = at0 A ds.length + 10 * c2) :
    vl (ds ++ [d]) + 10 ^ (ds ++ [d]).length * vl (A.drop (ds.length + 1)) + Y = X + 10 ^ (ds ++ [d]).length * (c2 + vl (B.drop (ds.length + 1))) := by
  rw [vl_snoc, List.length_append, List.length_singleton, Nat.pow_succ]
  rw [vl_drop A ds.length, vl_drop B ds.length] at h
  generalize at0 A ds.length = x at *
  generalize at0 B ds.length = y at *
  generalize vl (A.drop (ds.length + 1)) = P at *
  generalize vl (B.drop (ds.length + 1)) = Q at *
  generalize 10 ^ ds.length = p at *
  rw [Nat.mul_assoc, Nat.mul_assoc]
  have e1 : p * (x + 10 * P) = p * x + p * (10 * P) := Nat.mul_add _ _ _
  have e2 : p * (c + (y + 10 * Q)) = p * c + p * y + p * (10 * Q) := by rw [Nat.mul_add, Nat.mul_add, ← Nat.add_assoc]
  have e3 : p * d + p * y + p * c = p * x + p * (10 * c2) := by rw [← Nat.mul_add, ← Nat.mul_add, ← Nat.mul_add, hd]
  have e4 : p * (10 * (c2 + Q)) = p * (10 * c2) + p * (10 * Q) := by rw [Nat.mul_add 10, Nat.mul_add]
  rw [e1, e2] at h
  rw [e4]
  omega
theorem sub_end {ds : List Nat} {c q X Y : Nat} (h9 : ∀ d ∈ ds, d ≤ 9) (h : vl ds + Y = X + 10 ^ ds.length * (c + q)) (hXY : Y ≤ X) : vl ds = X - Y := by
  have h1 := vl_lt ds h9
  rcases Nat.eq_zero_or_pos (c + q) with e | e
  · rw [e] at h; simp at h; omega
  · have : 10 ^ ds.length * 1 ≤ 10 ^ ds.length * (c + q) := Nat.mul_le_mul_left _ e
    omega

set_option maxRecDepth 100000 in
set_option maxHeartbeats 1000000 in
theorem add_sub (x y : Int) (va vb : Value) (w : World) (ha : Digs w va (dg x.natAbs)) (hb : Digs w vb (dg y.natAbs)) (hs : ¬ decide (x < 0) = decide (y < 0)) (hge : y.natAbs ≤ x.natAbs) (hx : (dg x.natAbs).length ≤ 1000) (_hy : (dg y.natAbs).length ≤ 1000) :
    Calls Tryz.prog 106 #[.agg #[.bool (decide (x < 0)), va], .agg #[.bool (decide (y < 0)), vb]] w (SomeNum (x + y) w []) := by
  obtain ⟨i0, hi, hz0, hz1, hz2⟩ := info_parts info5
  obtain ⟨p1, q1, rfl⟩ := ha.head
  obtain ⟨p2, q2, rfl⟩ := hb.head
  have HA := Lib.hid ha; clear ha
  have HB := Lib.hid hb; clear hb
  have HS := Lib.hid hs; clear hs
  generalize hA : dg x.natAbs = A at *
  generalize hB : dg y.natAbs = B at *
  have H1 := Lib.hid hA; clear hA
  have H2 := Lib.hid hB; clear hB
  have cA : Can A := by rw [← H1.out]; exact Can.dg _
  have cB : Can B := by rw [← H2.out]; exact Can.dg _
  have hless : lessB A B = false := by unfold lessB; rw [← H1.out, ← H2.out, vl_dg, vl_dg, decide_eq_false (by omega)]
  have hcl := fun (w1 : World) (ha : Digs w1 (.slice p1 A.length q1) A) (hb : Digs w1 (.slice p2 B.length q2) B) => less_any _ _ A B w1 ha hb cA cB
  rw [hless] at hcl
  have HCL := Lib.hid hcl; clear hcl hless
  generalize hneg : decide (x < 0) = neg at *
  have HN := Lib.hid hneg; clear hneg
  generalize hneg2 : decide (y < 0) = neg2 at *
  have HN2 := Lib.hid hneg2; clear hneg2
  have hne : (neg == neg2) = false := by have := HS.out; cases neg <;> cases neg2 <;> first | rfl | exact absurd rfl this
  go_enter Tryz.func106, Tryz.ntmps106
  go_wp2_with fail
  refine (HCL.out _ (HA.out.below (below3 w _ _ _)) (HB.out.below (below3 w _ _ _))).mono ?_
  rintro e w1 ⟨rfl, hb1⟩
  have hk := hb1.size
  simp only [World.size_alloc] at hk
  have HB1 := Lib.hid hb1
  have m0 : w1.cell? ⟨w.heap.size, 0, none⟩ = some (.bool neg) := by rw [hb1.cell (p := ⟨w.heap.size, 0, none⟩) (by simp <;> omega)]; simp [go_sem]
  clear hb1
  go_wp2_with fail
  go_loopw [10, 11] (fun c i wr => ∃ (cn : Nat) (ds : List Nat) (v : Value), c = .int .i64 cn ∧ i = .int .i64 ds.length ∧ cn ≤ 1 ∧ ds.length ≤ A.length ∧ Hid ((∀ d ∈ ds, d ≤ 9) ∧ vl ds + 10 ^ ds.length * vl (A.drop ds.length) + y.natAbs = x.natAbs + 10 ^ ds.length * (cn + vl (B.drop ds.length))) ∧ SumRel w1.heap.size neg w1 ds v wr) (fun c i _ => A.length - (intOf i).toNat)
  case atStart => exact ⟨0, [], .slice none 0 0, rfl, rfl, by omega, by simp, Lib.hid ⟨by simp, by rw [← H1.out, ← H2.out]; simp [vl, vl_dg]⟩, ⟨(Below.refl _ _).alloc (Nat.le_refl _) _, by simp, by simp [go_sem], by simp [go_sem], by simp [go_sem], by simp [go_sem], World.ownsRow_nil _ _ _ _⟩⟩
  case round =>
    obtain ⟨cn, ds, v, rfl, rfl, hc, hl, hv, R⟩ := hrel
    have hbl := R.below
    have hA1 : wr.cell? ⟨w.heap.size, 1, none⟩ = some (.slice p1 A.length q1) := by rw [hbl.cell (p := ⟨w.heap.size, 1, none⟩) (show w.heap.size < w1.heap.size by omega), HB1.out.cell (p := ⟨w.heap.size, 1, none⟩) (by simp <;> omega)]; simp [go_sem]
    have hB1 : wr.cell? ⟨w.heap.size + 1, 1, none⟩ = some (.slice p2 B.length q2) := by rw [hbl.cell (p := ⟨w.heap.size + 1, 1, none⟩) (show w.heap.size + 1 < w1.heap.size by omega), HB1.out.cell (p := ⟨w.heap.size + 1, 1, none⟩) (by simp <;> omega)]; simp [go_sem]
    have hc1 := R.c1
    by_cases t1 : ds.length < A.length
    · have hbw : Below w.heap.size w wr := (below3 w _ _ _).trans ((HB1.out.mono (by simp; omega)).trans (hbl.mono (by omega)))
      have dA : Digs wr (.slice p1 A.length q1) A := HA.out.below hbw
      have dB : Digs wr (.slice p2 B.length q2) B := HB.out.below hbw
      have a9 : ∀ d ∈ A, d ≤ 9 := by rw [← H1.out]; exact dg_le _
      have b9 : ∀ d ∈ B, d ≤ 9 := by rw [← H2.out]; exact dg_le _
      have kA := at0_le A a9 ds.length
      have kB := at0_le B b9 ds.length
      have cA := fun nq => digit_q (.slice p1 A.length q1) A ds.length (wr.drewN nq) (dA.below (below_drewN (Below.refl _ _) nq)) (by omega) a9
      have cB := fun nq => digit_q (.slice p2 B.length q2) B ds.length (wr.drewN nq) (dB.below (below_drewN (Below.refl _ _) nq)) (by omega) b9
      have CA := Lib.hid cA; clear cA
      have CB := Lib.hid cB; clear cB
      clear a9 b9 dA dB hbw
      have RR := Lib.hid R; clear R
      generalize hda : at0 A ds.length = da at *
      generalize hdb : at0 B ds.length = db at *
      have HDA := Lib.hid hda; clear hda
      have HDB := Lib.hid hdb; clear hdb
      have ws1 : IntKind.i64.wrap ((da : Int) - (db : Int)) = (da : Int) - (db : Int) := IntWalk.i64_in _ (by omega)
      have ws2 : IntKind.i64.wrap ((da : Int) - (db : Int) - (cn : Int)) = (da : Int) - (db : Int) - (cn : Int) := IntWalk.i64_in _ (by omega)
      have RO : ∀ nq, (wr.drewN nq).ownsRow (w1.heap.size + 1) 5 1 v ds.length (vs ds) := fun nq => RR.out.own
      have RO := Lib.hid RO
      have bs : -10 ≤ (da : Int) - (db : Int) - (cn : Int) ∧ (da : Int) - (db : Int) - (cn : Int) ≤ 9 := by omega
      by_cases hneg3 : (da : Int) - (db : Int) - (cn : Int) < 0
      · have e1 : (da : Int) - (db : Int) - (cn : Int) + 10 = (((da + 10 - db - cn) : Nat) : Int) := by omega
        have E1 := Lib.hid e1; clear e1
        go_wp2_with fail
        go_quiet ((first | (go_at_call 122; with_reducible exact Calls.quiet_of_same (CA.out _)) | (go_at_call 122; with_reducible exact Calls.quiet_of_same (CB.out _))))
        clear ws1 ws2
        generalize hs3 : (da : Int) - (db : Int) - (cn : Int) = s at *
        have HS3 := Lib.hid hs3; clear hs3
        obtain ⟨bs1, bs2⟩ := bs
        go_wp2_with (at_builtin; refine wpList_append_own _ rfl (.tmp 96) (.tmp 99) 84 rfl (w1.heap.size + 1) 5 i0 (.int .u8 0) 1 1 Tryz.underlying84 hi hz0 hz1 hz2 rfl (by decide) v ds.length (vs ds) rfl ((RO.out _).alloc _) ⟨wr.heap.size, 0, none⟩ 1 1 [.int .u8 (s + 10)] rfl rfl (one_newN _ _ _ _) (by intro u hu; simp at hu; subst hu; rfl) (by unfold maxLen; omega) (by omega) (size_newN _ _ _ _ RR.out.size) ?_)
        intro v' w' hown' hgrow _
        obtain ⟨a', cap', rfl⟩ := own_shape hown'
        rw [E1.out] at hown'
        obtain ⟨hR, k1, kf1⟩ := RR.out.round ((below_drewN (Below.refl _ _) _).alloc (by simp) _) hgrow _ hown'
        have HR := Lib.hid hR; clear hR
        clear hown' hgrow
        go_wp2_with fail
        go_roundw
        case rel => exact ⟨1, ds ++ [(da + 10 - db - cn)], _, rfl, by simp, by omega, by simp; omega, Lib.hid ⟨by
            intro d hd
            rcases List.mem_append.1 hd with h | h
            · exact hv.out.1 d h
            · simp at h; have := HS3.out; omega, by
            have := HS3.out
            have := sub_step (A := A) (B := B) (c2 := 1) (d := (da + 10 - db - cn)) hv.out.2 (by rw [HDA.out, HDB.out]; omega)
            rw [List.length_append, List.length_singleton] at this ⊢
            exact this⟩, HR.out⟩
        case measure => simp [intOf]; omega
      · have e1 : (da : Int) - (db : Int) - (cn : Int) = (((da - db - cn) : Nat) : Int) := by omega
        have E1 := Lib.hid e1; clear e1
        go_wp2_with fail
        go_quiet ((first | (go_at_call 122; with_reducible exact Calls.quiet_of_same (CA.out _)) | (go_at_call 122; with_reducible exact Calls.quiet_of_same (CB.out _))))
        clear ws1 ws2
        generalize hs3 : (da : Int) - (db : Int) - (cn : Int) = s at *
        have HS3 := Lib.hid hs3; clear hs3
        obtain ⟨bs1, bs2⟩ := bs
        go_wp2_with (at_builtin; refine wpList_append_own _ rfl (.tmp 96) (.tmp 99) 84 rfl (w1.heap.size + 1) 5 i0 (.int .u8 0) 1 1 Tryz.underlying84 hi hz0 hz1 hz2 rfl (by decide) v ds.length (vs ds) rfl ((RO.out _).alloc _) ⟨wr.heap.size, 0, none⟩ 1 1 [.int .u8 s] rfl rfl (one_newN _ _ _ _) (by intro u hu; simp at hu; subst hu; rfl) (by unfold maxLen; omega) (by omega) (size_newN _ _ _ _ RR.out.size) ?_)
        intro v' w' hown' hgrow _
        obtain ⟨a', cap', rfl⟩ := own_shape hown'
        rw [E1.out] at hown'
        obtain ⟨hR, k1, kf1⟩ := RR.out.round ((below_drewN (Below.refl _ _) _).alloc (by simp) _) hgrow _ hown'
        have HR := Lib.hid hR; clear hR
        clear hown' hgrow
        go_wp2_with fail
        go_roundw
        case rel => exact ⟨0, ds ++ [(da - db - cn)], _, rfl, by simp, by omega, by simp; omega, Lib.hid ⟨by
            intro d hd
            rcases List.mem_append.1 hd with h | h
            · exact hv.out.1 d h
            · simp at h; have := HS3.out; omega, by
            have := HS3.out
            have := sub_step (A := A) (B := B) (c2 := 0) (d := (da - db - cn)) hv.out.2 (by rw [HDA.out, HDB.out]; omega)
            rw [List.length_append, List.length_singleton] at this ⊢
            exact this⟩, HR.out⟩
        case measure => simp [intOf]; omega
    · have hlen : ds.length = A.length := by omega
      obtain ⟨a, cap, rfl, hD, hf⟩ := own_digs R.own (by omega)
      have hval : nv neg ds = x + y := by
        have h := hv.out.2
        rw [List.drop_eq_nil_of_le (by omega : A.length ≤ ds.length)] at h
        have h2 : vl ds = x.natAbs - y.natAbs := sub_end hv.out.1 (by simpa [vl] using h) hge
        have hn := HN.out
        have hn2 := HN2.out
        have hs := HS.out
        unfold nv
        rw [h2]
        cases neg with
        | true =>
          have g1 : x < 0 := of_decide_eq_true hn
          have g2 : ¬ y < 0 := by intro g; exact hs (by rw [← hn2, decide_eq_true g])
          simp; omega
        | false =>
          have g1 : ¬ x < 0 := of_decide_eq_false hn
          have g2 : y < 0 := Decidable.byContradiction fun g => hs (by rw [← hn2, decide_eq_false g])
          simp; omega
      have r0 : wr.cell? ⟨w.heap.size + 1 + 1, 0, none⟩ = some (.bool false) := by rw [hbl.cell (p := ⟨w.heap.size + 1 + 1, 0, none⟩) (show w.heap.size + 1 + 1 < w1.heap.size by omega), HB1.out.cell (p := ⟨w.heap.size + 1 + 1, 0, none⟩) (by simp <;> omega)]; simp [go_sem]
      have r1 : wr.cell? ⟨w.heap.size + 1 + 1, 1, none⟩ = some (.slice none 0 0) := by rw [hbl.cell (p := ⟨w.heap.size + 1 + 1, 1, none⟩) (show w.heap.size + 1 + 1 < w1.heap.size by omega), HB1.out.cell (p := ⟨w.heap.size + 1 + 1, 1, none⟩) (by simp <;> omega)]; simp [go_sem]
      have g0 : wr.frozen? ⟨w.heap.size + 1 + 1, 0, none⟩ = false := by rw [hbl.frozen (p := ⟨w.heap.size + 1 + 1, 0, none⟩) (show w.heap.size + 1 + 1 < w1.heap.size by omega), HB1.out.frozen (p := ⟨w.heap.size + 1 + 1, 0, none⟩) (by simp)]; simp [go_sem]
      have g1 : wr.frozen? ⟨w.heap.size + 1 + 1, 1, none⟩ = false := by rw [hbl.frozen (p := ⟨w.heap.size + 1 + 1, 1, none⟩) (show w.heap.size + 1 + 1 < w1.heap.size by omega), HB1.out.frozen (p := ⟨w.heap.size + 1 + 1, 1, none⟩) (by simp)]; simp [go_sem]
      have hsz := R.size
      have HB2 := Lib.hid (show Below w.heap.size w wr from (below3 w _ _ _).trans ((HB1.out.mono (by simp; omega)).trans (hbl.mono (by omega))))
      have ct := fun (w1 : World) (h : Digs w1 (.slice a ds.length cap) ds) => ref_trim neg _ ds w1 h hv.out.1
      rw [hval] at ct
      have CT := Lib.hid ct; clear ct
      have HD := Lib.hid hD; clear hD
      have HF := Lib.hid hf; clear hf
      have hc0 := R.c0
      clear R hval hbl hlen
      go_wp2_with fail
      refine (CT.out _ HD.out).mono ?_
      rintro e w2 ⟨⟨a1, cap1, rfl, hd1, hf1⟩, hb2⟩
      have D1 := Lib.hid hd1; clear hd1
      have c0 : w2.cell? ⟨w.heap.size + 1 + 1, 0, none⟩ = some (.bool false) := by rw [hb2.cell (p := ⟨w.heap.size + 1 + 1, 0, none⟩) (show w.heap.size + 1 + 1 < wr.heap.size by omega)]; exact r0
      have c1 : w2.cell? ⟨w.heap.size + 1 + 1, 1, none⟩ = some (.slice none 0 0) := by rw [hb2.cell (p := ⟨w.heap.size + 1 + 1, 1, none⟩) (show w.heap.size + 1 + 1 < wr.heap.size by omega)]; exact r1
      have f0 : w2.frozen? ⟨w.heap.size + 1 + 1, 0, none⟩ = false := by rw [hb2.frozen (p := ⟨w.heap.size + 1 + 1, 0, none⟩) (show w.heap.size + 1 + 1 < wr.heap.size by omega)]; exact g0
      have f1 : w2.frozen? ⟨w.heap.size + 1 + 1, 1, none⟩ = false := by rw [hb2.frozen (p := ⟨w.heap.size + 1 + 1, 1, none⟩) (show w.heap.size + 1 + 1 < wr.heap.size by omega)]; exact g1
      have hb0 := HB2.out.trans (hb2.mono (by omega))
      clear hb2 r0 r1 g0 g1
      have HF1 := Lib.hid hf1; clear hf1
      go_wp2_with fail
      refine bodyPost_ret (v := .agg #[.bool (decide (x + y < 0)), .slice a1 (dg (x + y).natAbs).length cap1]) (by simp [results, Tryz.results106, go_sem, c0, c1]) rfl ?_
      exact SomeNum.stored rfl hb0 (by omega) D1.out (fun p hp => .inl (by
        rcases HF1.out p hp with h | h
        · omega
        · cases a with
          | none => simp [sb] at h
          | some q => simp [sb] at h; have := HF.out q rfl; omega)) (fun _ h => by cases h)

set_option maxRecDepth 100000 in
set_option maxHeartbeats 1000000 in
theorem add_swap (x y : Int) (va vb : Value) (w : World) (ha : Digs w va (dg x.natAbs)) (hb : Digs w vb (dg y.natAbs)) (hs : ¬ decide (x < 0) = decide (y < 0)) (hlt : x.natAbs < y.natAbs) (hx : (dg x.natAbs).length ≤ 1000) (hy : (dg y.natAbs).length ≤ 1000) :
    Calls Tryz.prog 106 #[.agg #[.bool (decide (x < 0)), va], .agg #[.bool (decide (y < 0)), vb]] w (SomeNum (x + y) w []) := by
  obtain ⟨p1, q1, rfl⟩ := ha.head
  obtain ⟨p2, q2, rfl⟩ := hb.head
  have hcl := fun (w1 : World) (ha : Digs w1 (.slice p1 (dg x.natAbs).length q1) (dg x.natAbs)) (hb : Digs w1 (.slice p2 (dg y.natAbs).length q2) (dg y.natAbs)) => less_any _ _ (dg x.natAbs) (dg y.natAbs) w1 ha hb (Can.dg _) (Can.dg _)
  have hless : lessB (dg x.natAbs) (dg y.natAbs) = true := by unfold lessB; rw [vl_dg, vl_dg, decide_eq_true hlt]
  rw [hless] at hcl
  have HCL := Lib.hid hcl; clear hcl hless
  have hre := fun (w1 : World) (ha : Digs w1 (.slice p1 (dg x.natAbs).length q1) (dg x.natAbs)) (hb : Digs w1 (.slice p2 (dg y.natAbs).length q2) (dg y.natAbs)) => add_sub y x _ _ w1 hb ha (fun e => hs e.symm) (by omega) hy hx
  rw [Int.add_comm y x] at hre
  have HRE := Lib.hid hre; clear hre
  have HA := Lib.hid ha; clear ha
  have HB := Lib.hid hb; clear hb
  have hne : (decide (x < 0) == decide (y < 0)) = false := by cases h1 : decide (x < 0) <;> cases h2 : decide (y < 0) <;> first | rfl | (rw [h1, h2] at hs; exact absurd rfl hs)
  clear hs
  generalize decide (x < 0) = neg at *
  generalize decide (y < 0) = neg2 at *
  generalize dg x.natAbs = A at *
  generalize dg y.natAbs = B at *
  go_enter Tryz.func106, Tryz.ntmps106
  go_wp2_with fail
  refine (HCL.out _ (HA.out.below (below3 w _ _ _)) (HB.out.below (below3 w _ _ _))).mono ?_
  rintro e w1 ⟨rfl, hb1⟩
  have hk := hb1.size
  simp only [World.size_alloc] at hk
  have HB1 := Lib.hid hb1
  have m0 : w1.cell? ⟨w.heap.size, 0, none⟩ = some (.bool neg) := by rw [hb1.cell (p := ⟨w.heap.size, 0, none⟩) (by simp <;> omega)]; simp [go_sem]
  have m1 : w1.cell? ⟨w.heap.size, 1, none⟩ = some (.slice p1 A.length q1) := by rw [hb1.cell (p := ⟨w.heap.size, 1, none⟩) (by simp <;> omega)]; simp [go_sem]
  have m2 : w1.cell? ⟨w.heap.size + 1, 0, none⟩ = some (.bool neg2) := by rw [hb1.cell (p := ⟨w.heap.size + 1, 0, none⟩) (by simp <;> omega)]; simp [go_sem]
  have m3 : w1.cell? ⟨w.heap.size + 1, 1, none⟩ = some (.slice p2 B.length q2) := by rw [hb1.cell (p := ⟨w.heap.size + 1, 1, none⟩) (by simp <;> omega)]; simp [go_sem]
  clear hb1
  go_wp2_with fail
  refine (HRE.out _ (HA.out.below ((below3 w _ _ _).trans (HB1.out.mono (by simp; omega)))) (HB.out.below ((below3 w _ _ _).trans (HB1.out.mono (by simp; omega))))).mono ?_
  rintro e w2 ⟨⟨a1, cap1, rfl, hd1, hf1⟩, hb2⟩
  have D1 := Lib.hid hd1; clear hd1
  have hb02 := HB1.out.trans (hb2.mono (by simp; omega))
  have c0 : w2.cell? ⟨w.heap.size + 1 + 1, 0, none⟩ = some (.bool false) := by rw [hb02.cell (p := ⟨w.heap.size + 1 + 1, 0, none⟩) (by simp <;> omega)]; simp [go_sem]
  have c1 : w2.cell? ⟨w.heap.size + 1 + 1, 1, none⟩ = some (.slice none 0 0) := by rw [hb02.cell (p := ⟨w.heap.size + 1 + 1, 1, none⟩) (by simp <;> omega)]; simp [go_sem]
  have f0 : w2.frozen? ⟨w.heap.size + 1 + 1, 0, none⟩ = false := by rw [hb02.frozen (p := ⟨w.heap.size + 1 + 1, 0, none⟩) (by simp <;> omega)]; simp [go_sem]
  have f1 : w2.frozen? ⟨w.heap.size + 1 + 1, 1, none⟩ = false := by rw [hb02.frozen (p := ⟨w.heap.size + 1 + 1, 1, none⟩) (by simp <;> omega)]; simp [go_sem]
  have hb0 := (below3 w _ _ _).trans (hb02.mono (by simp; omega))
  clear hb2 hb02
  have HF1 := Lib.hid hf1; clear hf1
  go_wp2_with fail
  refine bodyPost_ret (v := .agg #[.bool (decide (x + y < 0)), .slice a1 (dg (x + y).natAbs).length cap1]) (by simp [results, Tryz.results106, go_sem, c0, c1]) rfl ?_
  exact SomeNum.stored rfl hb0 (by omega) D1.out (fun p hp => .inl (by
    rcases HF1.out p hp with h | h
    · omega
    · simp at h)) (fun _ h => by cases h)

theorem ref_add (x y : Int) (va vb : Value) (w : World) (ha : Digs w va (dg x.natAbs)) (hb : Digs w vb (dg y.natAbs)) (hx : (dg x.natAbs).length ≤ 1000) (hy : (dg y.natAbs).length ≤ 1000) :
    Calls Tryz.prog 106 #[.agg #[.bool (decide (x < 0)), va], .agg #[.bool (decide (y < 0)), vb]] w (SomeNum (x + y) w []) := by
  by_cases hs : decide (x < 0) = decide (y < 0)
  · exact add_same x y va vb w ha hb hs hx hy
  · by_cases h : y.natAbs ≤ x.natAbs
    · exact add_sub x y va vb w ha hb hs h hx hy
    · exact add_swap x y va vb w ha hb hs (by omega) hx hy
end Go.Proofs.YtoafigehcgledaaGreatDoor.R1
namespace Go.Proofs.YtoafigehcgledaaGreatDoor.R1
open Go.RowKit

def cmpI (x y : Int) : Int := if x < y then -1 else if y < x then 1 else 0

set_option maxRecDepth 100000 in
set_option maxHeartbeats 1000000 in
theorem ref_cmp (x y : Int) (va vb : Value) (w : World) (ha : Digs w va (dg x.natAbs)) (hb : Digs w vb (dg y.natAbs)) (hx : (dg x.natAbs).length ≤ 1000) (hy : (dg y.natAbs).length ≤ 1000) :
    Calls Tryz.prog 83 #[.agg #[.bool (decide (x < 0)), va], .agg #[.bool (decide (y < 0)), vb]] w fun e w' => e = .returned (.int .i64 (cmpI x y)) ∧ Below w.heap.size w w' := by
  obtain ⟨p1, q1, rfl⟩ := ha.head
  obtain ⟨p2, q2, rfl⟩ := hb.head
  have hneg := fun (w1 : World) (hb : Digs w1 (.slice p2 (dg y.natAbs).length q2) (dg y.natAbs)) => neg_any y _ w1 hb
  obtain ⟨z, hz⟩ : ∃ z, z = -y := ⟨_, rfl⟩
  have hyz : (dg z.natAbs).length ≤ 1000 := by rw [hz, Int.natAbs_neg]; exact hy
  rw [← hz] at hneg
  have hadd := fun (a : Option Addr) (cap : Nat) (w1 : World) (ha : Digs w1 (.slice p1 (dg x.natAbs).length q1) (dg x.natAbs)) (hb : Digs w1 (.slice a (dg z.natAbs).length cap) (dg z.natAbs)) => ref_add x z _ _ w1 ha hb hx hyz
  obtain ⟨d, hd⟩ : ∃ d, d = x + z := ⟨_, rfl⟩
  rw [← hd] at hadd
  have hxyd : d = x - y := by omega
  have HXYD := Lib.hid hxyd; clear hxyd hd hyz hz
  have HNEG := Lib.hid hneg; clear hneg
  have HADD := Lib.hid hadd; clear hadd
  have HA := Lib.hid ha; clear ha
  have HB := Lib.hid hb; clear hb
  go_enter Tryz.func83, Tryz.ntmps83
  go_upto_region 1 with fail
  go_cut [5] (fun s5 wx => ∃ a cap k, s5 = .pointer (some ⟨k, 0, none⟩) ∧ wx.cell? ⟨k, 0, none⟩ = some (.bool (decide (d < 0))) ∧ wx.cell? ⟨k, 1, none⟩ = some (.slice a (dg d.natAbs).length cap) ∧ Below w.heap.size w wx)
  case first =>
    have nn0 : ¬ w.heap.size = w.heap.size + 1 + 1 := by omega
    have nn1 : ¬ w.heap.size + 1 + 1 = w.heap.size := by omega
    go_region_held3 (fun w' => w'.cell? ⟨w.heap.size, 0, none⟩ = some (.bool (decide (x < 0))) ∧ w'.cell? ⟨w.heap.size, 1, none⟩ = some (.slice p1 (dg x.natAbs).length q1) ∧ w'.cell? ⟨w.heap.size + 1, 0, none⟩ = some (.bool (decide (y < 0))) ∧ w'.cell? ⟨w.heap.size + 1, 1, none⟩ = some (.slice p2 (dg y.natAbs).length q2)) (go_keep)
      (first
        | (go_at_call 59; (with_reducible show Calls _ _ _ (((w.alloc _).alloc _).drew) _); refine (HNEG.out (((w.alloc _).alloc _).drew) (HB.out.below ((below2 w _ _).drew))).mono ?_; rintro e w1 ⟨⟨a1, cap1, rfl, hd1, hf1⟩, hb1⟩; have D1 := Lib.hid hd1; clear hd1 hf1; have hb2 : Below w.heap.size w w1 := ((below2 w _ _).drew).trans (hb1.mono (by simp; omega)); have hz1 : w.heap.size + 1 + 1 ≤ w1.heap.size := (by have := hb1.size; simp at this; omega); have k0 : w1.cell? ⟨w.heap.size, 0, none⟩ = some (.bool (decide (x < 0))) := (by rw [hb1.cell (p := ⟨w.heap.size, 0, none⟩) (by simp <;> omega)]; simp [go_sem]); have k1 : w1.cell? ⟨w.heap.size, 1, none⟩ = some (.slice p1 (dg x.natAbs).length q1) := (by rw [hb1.cell (p := ⟨w.heap.size, 1, none⟩) (by simp <;> omega)]; simp [go_sem]); have k2 : w1.cell? ⟨w.heap.size + 1, 0, none⟩ = some (.bool (decide (y < 0))) := (by rw [hb1.cell (p := ⟨w.heap.size + 1, 0, none⟩) (by simp <;> omega)]; simp [go_sem]); have k3 : w1.cell? ⟨w.heap.size + 1, 1, none⟩ = some (.slice p2 (dg y.natAbs).length q2) := (by rw [hb1.cell (p := ⟨w.heap.size + 1, 1, none⟩) (by simp <;> omega)]; simp [go_sem]); have ek1 := World.new_ne w1 _ k0; have ek2 := World.new_ne w1 _ k2; clear hb1)
        | (go_at_call 59; (with_reducible show Calls _ _ _ ((((w.alloc _).alloc _).alloc _).drew) _); refine (HNEG.out ((((w.alloc _).alloc _).alloc _).drew) (HB.out.below ((below3 w _ _ _).drew))).mono ?_; rintro e w1 ⟨⟨a1, cap1, rfl, hd1, hf1⟩, hb1⟩; have D1 := Lib.hid hd1; clear hd1 hf1; have hb2 : Below w.heap.size w w1 := ((below3 w _ _ _).drew).trans (hb1.mono (by simp; omega)); have hz1 : w.heap.size + 1 + 1 ≤ w1.heap.size := (by have := hb1.size; simp at this; omega); have k0 : w1.cell? ⟨w.heap.size, 0, none⟩ = some (.bool (decide (x < 0))) := (by rw [hb1.cell (p := ⟨w.heap.size, 0, none⟩) (by simp <;> omega)]; simp [go_sem]); have k1 : w1.cell? ⟨w.heap.size, 1, none⟩ = some (.slice p1 (dg x.natAbs).length q1) := (by rw [hb1.cell (p := ⟨w.heap.size, 1, none⟩) (by simp <;> omega)]; simp [go_sem]); have k2 : w1.cell? ⟨w.heap.size + 1, 0, none⟩ = some (.bool (decide (y < 0))) := (by rw [hb1.cell (p := ⟨w.heap.size + 1, 0, none⟩) (by simp <;> omega)]; simp [go_sem]); have k3 : w1.cell? ⟨w.heap.size + 1, 1, none⟩ = some (.slice p2 (dg y.natAbs).length q2) := (by rw [hb1.cell (p := ⟨w.heap.size + 1, 1, none⟩) (by simp <;> omega)]; simp [go_sem]); have kz : w.heap.size + 1 + 1 < w1.heap.size := (by have := hb1.size; simp at this; omega); have kk0 : w1.cell? ⟨w.heap.size + 1 + 1, 0, none⟩ = some (.bool false) := (by rw [hb1.cell (p := ⟨w.heap.size + 1 + 1, 0, none⟩) (by simp)]; simp [go_sem]); have kf0 : w1.frozen? ⟨w.heap.size + 1 + 1, 0, none⟩ = false := (by rw [hb1.frozen (p := ⟨w.heap.size + 1 + 1, 0, none⟩) (by simp)]; simp [go_sem]); have kk1 : w1.cell? ⟨w.heap.size + 1 + 1, 1, none⟩ = some (.slice none 0 0) := (by rw [hb1.cell (p := ⟨w.heap.size + 1 + 1, 1, none⟩) (by simp)]; simp [go_sem]); have kf1 : w1.frozen? ⟨w.heap.size + 1 + 1, 1, none⟩ = false := (by rw [hb1.frozen (p := ⟨w.heap.size + 1 + 1, 1, none⟩) (by simp)]; simp [go_sem]); have ek1 := World.new_ne w1 _ k0; have ek2 := World.new_ne w1 _ k2; clear hb1)
        | (go_at_call 106; (with_reducible show Calls _ _ _ (w1.alloc _) _); refine (HADD.out _ _ (w1.alloc _) (HA.out.below (hb2.alloc (by omega) _)) (D1.out.below (below1 _ _))).mono ?_; rintro e w2 ⟨⟨a2, cap2, rfl, hd2, hf2⟩, hb3⟩; clear hd2 hf2; have hs3 : w1.heap.size ≤ w2.heap.size := (by have := hb3.size; first | exact this | (simp at this; omega)); have j0 : w2.cell? ⟨w.heap.size, 0, none⟩ = some (.bool (decide (x < 0))) := (by rw [hb3.cell (p := ⟨w.heap.size, 0, none⟩) (show w.heap.size < (w1.alloc _).heap.size by simp; omega), (below1 w1 _).cell (p := ⟨w.heap.size, 0, none⟩) (show w.heap.size < w1.heap.size by omega)]; exact k0); have j1 : w2.cell? ⟨w.heap.size, 1, none⟩ = some (.slice p1 (dg x.natAbs).length q1) := (by rw [hb3.cell (p := ⟨w.heap.size, 1, none⟩) (show w.heap.size < (w1.alloc _).heap.size by simp; omega), (below1 w1 _).cell (p := ⟨w.heap.size, 1, none⟩) (show w.heap.size < w1.heap.size by omega)]; exact k1); have j2 : w2.cell? ⟨w.heap.size + 1, 0, none⟩ = some (.bool (decide (y < 0))) := (by rw [hb3.cell (p := ⟨w.heap.size + 1, 0, none⟩) (show w.heap.size + 1 < (w1.alloc _).heap.size by simp; omega), (below1 w1 _).cell (p := ⟨w.heap.size + 1, 0, none⟩) (show w.heap.size + 1 < w1.heap.size by omega)]; exact k2); have j3 : w2.cell? ⟨w.heap.size + 1, 1, none⟩ = some (.slice p2 (dg y.natAbs).length q2) := (by rw [hb3.cell (p := ⟨w.heap.size + 1, 1, none⟩) (show w.heap.size + 1 < (w1.alloc _).heap.size by simp; omega), (below1 w1 _).cell (p := ⟨w.heap.size + 1, 1, none⟩) (show w.heap.size + 1 < w1.heap.size by omega)]; exact k3); have jm0 : w2.cell? ⟨w1.heap.size, 0, none⟩ = some (.bool false) := (by rw [hb3.cell (p := ⟨w1.heap.size, 0, none⟩) (by simp)]; simp [go_sem]); have jmf0 : w2.frozen? ⟨w1.heap.size, 0, none⟩ = false := (by rw [hb3.frozen (p := ⟨w1.heap.size, 0, none⟩) (by simp)]; simp [go_sem]); have jm1 : w2.cell? ⟨w1.heap.size, 1, none⟩ = some (.slice none 0 0) := (by rw [hb3.cell (p := ⟨w1.heap.size, 1, none⟩) (by simp)]; simp [go_sem]); have jmf1 : w2.frozen? ⟨w1.heap.size, 1, none⟩ = false := (by rw [hb3.frozen (p := ⟨w1.heap.size, 1, none⟩) (by simp)]; simp [go_sem]); have ej1 := World.new_ne w2 _ j0; have ej2 := World.new_ne w2 _ j2; have hb4 : Below w.heap.size w w2 := (hb2.alloc (by omega) _).trans (hb3.mono (by simp; omega)); clear hb3)
        | (have _tok := kk0; go_at_call 106; (with_reducible show Calls _ _ _ w1 _); refine (HADD.out _ _ (w1) (HA.out.below (hb2)) (D1.out)).mono ?_; rintro e w2 ⟨⟨a2, cap2, rfl, hd2, hf2⟩, hb3⟩; clear hd2 hf2; have hs3 : w1.heap.size ≤ w2.heap.size := hb3.size; have j0 : w2.cell? ⟨w.heap.size, 0, none⟩ = some (.bool (decide (x < 0))) := (by rw [hb3.cell (p := ⟨w.heap.size, 0, none⟩) (show w.heap.size < w1.heap.size by omega)]; exact k0); have j1 : w2.cell? ⟨w.heap.size, 1, none⟩ = some (.slice p1 (dg x.natAbs).length q1) := (by rw [hb3.cell (p := ⟨w.heap.size, 1, none⟩) (show w.heap.size < w1.heap.size by omega)]; exact k1); have j2 : w2.cell? ⟨w.heap.size + 1, 0, none⟩ = some (.bool (decide (y < 0))) := (by rw [hb3.cell (p := ⟨w.heap.size + 1, 0, none⟩) (show w.heap.size + 1 < w1.heap.size by omega)]; exact k2); have j3 : w2.cell? ⟨w.heap.size + 1, 1, none⟩ = some (.slice p2 (dg y.natAbs).length q2) := (by rw [hb3.cell (p := ⟨w.heap.size + 1, 1, none⟩) (show w.heap.size + 1 < w1.heap.size by omega)]; exact k3); have jj0 : w2.cell? ⟨w.heap.size + 1 + 1, 0, none⟩ = some (.bool false) := (by rw [hb3.cell (p := ⟨w.heap.size + 1 + 1, 0, none⟩) kz]; exact kk0); have jf0 : w2.frozen? ⟨w.heap.size + 1 + 1, 0, none⟩ = false := (by rw [hb3.frozen (p := ⟨w.heap.size + 1 + 1, 0, none⟩) kz]; exact kf0); have jj1 : w2.cell? ⟨w.heap.size + 1 + 1, 1, none⟩ = some (.slice none 0 0) := (by rw [hb3.cell (p := ⟨w.heap.size + 1 + 1, 1, none⟩) kz]; exact kk1); have jf1 : w2.frozen? ⟨w.heap.size + 1 + 1, 1, none⟩ = false := (by rw [hb3.frozen (p := ⟨w.heap.size + 1 + 1, 1, none⟩) kz]; exact kf1); have ej1 := World.new_ne w2 _ j0; have ej2 := World.new_ne w2 _ j2; have hb4 : Below w.heap.size w w2 := hb2.trans (hb3.mono hb2.size); clear hb3)
        | (go_at_call 106; (with_reducible show Calls _ _ _ w1 _); refine (HADD.out _ _ (w1) (HA.out.below (hb2)) (D1.out)).mono ?_; rintro e w2 ⟨⟨a2, cap2, rfl, hd2, hf2⟩, hb3⟩; clear hd2 hf2; have hs3 : w1.heap.size ≤ w2.heap.size := hb3.size; have j0 : w2.cell? ⟨w.heap.size, 0, none⟩ = some (.bool (decide (x < 0))) := (by rw [hb3.cell (p := ⟨w.heap.size, 0, none⟩) (show w.heap.size < w1.heap.size by omega)]; exact k0); have j1 : w2.cell? ⟨w.heap.size, 1, none⟩ = some (.slice p1 (dg x.natAbs).length q1) := (by rw [hb3.cell (p := ⟨w.heap.size, 1, none⟩) (show w.heap.size < w1.heap.size by omega)]; exact k1); have j2 : w2.cell? ⟨w.heap.size + 1, 0, none⟩ = some (.bool (decide (y < 0))) := (by rw [hb3.cell (p := ⟨w.heap.size + 1, 0, none⟩) (show w.heap.size + 1 < w1.heap.size by omega)]; exact k2); have j3 : w2.cell? ⟨w.heap.size + 1, 1, none⟩ = some (.slice p2 (dg y.natAbs).length q2) := (by rw [hb3.cell (p := ⟨w.heap.size + 1, 1, none⟩) (show w.heap.size + 1 < w1.heap.size by omega)]; exact k3); have ej1 := World.new_ne w2 _ j0; have ej2 := World.new_ne w2 _ j2; have hb4 : Below w.heap.size w w2 := hb2.trans (hb3.mono hb2.size); clear hb3))
    · go_wp2_with fail
      go_meet
      exact ⟨a2, cap2, _, rfl, by simp [go_sem], by simp [go_sem], hb4.alloc hb4.size _⟩
    · go_wp2_with fail
      go_meet
      exact ⟨a2, cap2, _, rfl, by simp [go_sem, jm0], by simp [go_sem, jm1], (hb4.setCell (p := ⟨w1.heap.size, 0, none⟩) (show w.heap.size ≤ w1.heap.size by omega) _).setCell (p := ⟨w1.heap.size, 1, none⟩) (show w.heap.size ≤ w1.heap.size by omega) _⟩
    · go_wp2_with fail
      go_meet
      exact ⟨a2, cap2, _, rfl, by simp [go_sem, jj0], by simp [go_sem, jj1], (hb4.setCell (p := ⟨w.heap.size + 1 + 1, 0, none⟩) (show w.heap.size ≤ w.heap.size + 1 + 1 by omega) _).setCell (p := ⟨w.heap.size + 1 + 1, 1, none⟩) (show w.heap.size ≤ w.heap.size + 1 + 1 by omega) _⟩
  case rest =>
    obtain ⟨a, cap, k, rfl, h0, h1, hbl⟩ := hcut
    have hxyd := HXYD.out
    by_cases hd : d < 0
    · rw [decide_eq_true hd] at h0
      have hr : cmpI x y = -1 := by unfold cmpI; rw [if_pos (by omega)]
      have HR := Lib.hid hr; clear hr hxyd hd h1
      go_wp2_with fail
      go_ret
      exact ⟨by rw [HR.out]; rfl, hbl⟩
    · rw [decide_eq_false hd] at h0
      by_cases hz : d = 0
      · have hl : (dg d.natAbs).length = 0 := by rw [hz]; simp [dg_zero]
        rw [hl] at h1
        have hr : cmpI x y = 0 := by unfold cmpI; rw [if_neg (by omega), if_neg (by omega)]
        have HR := Lib.hid hr; clear hr hxyd hd hl hz
        go_wp2_with fail
        go_ret
        exact ⟨by rw [HR.out]; rfl, hbl⟩
      · have hl : 0 < (dg d.natAbs).length := by
          rcases Nat.eq_zero_or_pos (dg d.natAbs).length with e | e
          · have := dg_nil.1 (List.length_eq_zero_iff.1 e)
            omega
          · exact e
        generalize (dg d.natAbs).length = L at *
        have hr : cmpI x y = 1 := by unfold cmpI; rw [if_neg (by omega), if_pos (by omega)]
        have HR := Lib.hid hr; clear hr hxyd hd hz
        go_wp2_with fail
        go_ret
        exact ⟨by rw [HR.out]; rfl, hbl⟩
end Go.Proofs.YtoafigehcgledaaGreatDoor.R1
namespace Go.Proofs.YtoafigehcgledaaGreatDoor.R1
open Go.RowKit

theorem decDigits_dg (u : Nat) (h : 0 < u) : Lib.decDigits u = (dg u).reverse.map fun d => UInt8.ofNat (48 + d) := by
  induction u using Nat.strongRecOn with
  | _ u ih =>
    rw [Lib.decDigits, dg_pos (by omega)]
    by_cases g : u < 10
    · rw [dif_pos g, show u / 10 = 0 from by omega, dg_zero, show u % 10 = u from by omega]; rfl
    · rw [dif_neg g, ih (u / 10) (by omega) (by omega)]; simp
def sgn (x : Int) : List Nat := if x < 0 then [45] else []
def textL (x : Int) : List Nat := sgn x ++ (dg x.natAbs).reverse.map (48 + ·)
theorem itoa_textL (x : Int) (h : ¬ x = 0) : Lib.itoa x = (textL x).map fun d => UInt8.ofNat d := by
  unfold Lib.itoa textL sgn
  by_cases g : x < 0
  · rw [if_pos g, if_pos g, decDigits_dg _ (by omega)]; simp [Function.comp_def]
  · rw [if_neg g, if_neg g, show x.toNat = x.natAbs from by omega, decDigits_dg _ (by omega)]; simp [Function.comp_def]
theorem drop_at0 {l : List Nat} {m : Nat} (h : m < l.length) : l.drop m = at0 l m :: l.drop (m + 1) := by
  rw [List.drop_eq_getElem_cons h]
  unfold at0
  rw [List.getD_eq_getElem?_getD, List.getElem?_eq_getElem h]; rfl
theorem conv_own {w : World} {base : Nat} {v : Value} {ds : List Nat} (h : w.ownsRow base 5 1 v ds.length (vs ds)) (hp : 0 < ds.length) :
    (convert 84 9 v).run Tryz.prog w = .ok (.string ⟨(ds.map fun d => UInt8.ofNat d).toArray⟩) w := by
  have h2 := h
  obtain ⟨_, ⟨rfl, hn⟩ | ⟨g, cap, cur, rfl, hb, hh, hc, hm, _, _⟩⟩ := h
  · omega
  · have := run_convert_bytes_arg (P := Tryz.prog) w 84 5 Tryz.underlying84 Tryz.underlying5 g 0 ds.length cap (ds.map fun (d : Nat) => (d : Int)) (by simp) (fun i hi => by
      rw [Nat.zero_add, h2.cellAt i (by omega), vs_at ds i hi]
      unfold at0
      rw [List.getD_eq_getElem?_getD, List.getD_eq_getElem?_getD, List.getElem?_map, List.getElem?_eq_getElem hi]
      rfl) 9 Tryz.underlying9
    rw [this]
    unfold strOfNums
    simp [Function.comp_def]

set_option maxHeartbeats 1000000 in
theorem text_zero (va : Value) (w : World) (h : Digs w va (dg (0 : Int).natAbs)) :
    Calls Tryz.prog 55 #[.agg #[.bool (decide ((0 : Int) < 0)), va]] w fun e w' => e = .returned (.string ⟨(Lib.itoa 0).toArray⟩) ∧ Below w.heap.size w w' := by
  obtain ⟨p1, q1, rfl⟩ := h.head
  have e : (dg (0 : Int).natAbs).length = 0 := by simp [dg_zero]
  rw [e]
  have hi : Lib.itoa 0 = [48] := by unfold Lib.itoa; rw [if_neg (by decide), Lib.decDigits]; rfl
  have HI := Lib.hid hi; clear hi e h
  go_enter Tryz.func55, Tryz.ntmps55
  go_wp2_with fail
  go_ret
  exact ⟨by rw [HI.out]; rfl, below1 _ _⟩

set_option maxRecDepth 100000 in
set_option maxHeartbeats 1000000 in
theorem text_some (x : Int) (va : Value) (w : World) (hd : Digs w va (dg x.natAbs)) (hx : (dg x.natAbs).length ≤ 1000) (h0 : ¬ x = 0) :
    Calls Tryz.prog 55 #[.agg #[.bool (decide (x < 0)), va]] w fun e w' => e = .returned (.string ⟨(Lib.itoa x).toArray⟩) ∧ Below w.heap.size w w' := by
  obtain ⟨i0, hi, hz0, hz1, hz2⟩ := info_parts info5
  have hpos : 0 < (dg x.natAbs).length := by
    rcases Nat.eq_zero_or_pos (dg x.natAbs).length with e | e
    · have := dg_nil.1 (List.length_eq_zero_iff.1 e); omega
    · exact e
  have hit := itoa_textL x h0
  unfold textL at hit
  obtain ⟨b, cap, rfl, hb, _, hcap, hmax, hcells⟩ := hd.slice hpos
  have h9 := dg_le x.natAbs
  generalize dg x.natAbs = D at *
  have HIT := Lib.hid hit; clear hit
  have HC := Lib.hid hcells; clear hcells
  have H9 := Lib.hid h9; clear h9 hd
  have hneg : (decide (x < 0) = true ∧ sgn x = [45]) ∨ (decide (x < 0) = false ∧ sgn x = []) := by
    unfold sgn
    by_cases g : x < 0
    · exact .inl ⟨decide_eq_true g, if_pos g⟩
    · exact .inr ⟨decide_eq_false g, if_neg g⟩
  clear h0
  generalize decide (x < 0) = neg at *
  generalize sgn x = S at *
  unfold maxLen at hmax
  have hl0 : ((D.length : Int) == 0) = false := beq_eq_false_iff_ne.2 (by omega)
  rcases hneg with ⟨rfl, rfl⟩ | ⟨rfl, rfl⟩
  · go_enter Tryz.func55, Tryz.ntmps55
    go_wp2_with (at_builtin; refine wpList_append_own _ rfl (.tmp 11) (.tmp 12) 84 rfl (w.heap.size + 1) 5 i0 (.int .u8 0) 1 1 Tryz.underlying84 hi hz0 hz1 hz2 rfl (by decide) (.slice none 0 0) 0 [] rfl (World.ownsRow_nil _ _ _ _) ⟨w.heap.size + 1, 0, none⟩ 1 1 [.int .u8 45] rfl rfl ?c1 ?c2 ?c3 ?c4 ?c5 ?_)
    case c1 =>
      intro j u hj
      have h := one_new (w.alloc (.cells #[.bool true, .slice (some ⟨b, 0, none⟩) D.length cap] NT)) (.int .u8 45) 5 j u hj
      rw [World.size_alloc] at h
      exact h
    case c2 => intro u hu; simp at hu; subst hu; rfl
    case c3 => unfold maxLen; omega
    case c4 => omega
    case c5 => simp
    intro v0 w0 hown0 hgrow0 _
    have h20 : Below (w.heap.size + 1) (w.alloc (.cells #[.bool true, .slice (some ⟨b, 0, none⟩) D.length cap] NT)) w0 := ((below1 (w.alloc _) _).mono (by simp)).grown hgrow0 (by simp) (fun j hj => by cases hj)
    have hA10 : w0.cell? ⟨w.heap.size, 1, none⟩ = some (.slice (some ⟨b, 0, none⟩) D.length cap) := by rw [h20.cell (p := ⟨w.heap.size, 1, none⟩) (by simp)]; simp [go_sem]
    have hs0 : w.heap.size + 1 ≤ w0.heap.size := by have := h20.size; simp at this; omega
    obtain ⟨a0, cap0, rfl⟩ := own_shape hown0
    have HO0 := Lib.hid hown0; clear hown0 hgrow0
    have HB0 := Lib.hid h20; clear h20
    go_wp2_with fail
    go_loopw [3, 4] (fun v i wr => ∃ (z : Int) (ds : List Nat), -1 ≤ z ∧ z < D.length ∧ i = .int .i64 z ∧ ds.length ≤ 1001 - z ∧ Hid (ds = ([45] : List Nat) ++ (D.drop (z + 1).toNat).reverse.map (48 + ·)) ∧ Below (w.heap.size + 1) (w.alloc (.cells #[.bool true, .slice (some ⟨b, 0, none⟩) D.length cap] NT)) wr ∧ w.heap.size + 1 ≤ wr.heap.size ∧ wr.ownsRow (w.heap.size + 1) 5 1 v ds.length (vs ds)) (fun v i _ => (intOf i + 1).toNat)
    case atStart => exact ⟨(D.length : Int) - 1, [45], by omega, by omega, rfl, by simp; omega, Lib.hid (by rw [show ((D.length : Int) - 1 + 1).toNat = D.length from by omega]; simp), HB0.out, hs0, HO0.out⟩
    case round =>
      obtain ⟨z, ds, hz1', hz2', rfl, hln, hds, hbl, hsz, hown⟩ := hrel
      have hA1 : wr.cell? ⟨w.heap.size, 1, none⟩ = some (.slice (some ⟨b, 0, none⟩) D.length cap) := by rw [hbl.cell (p := ⟨w.heap.size, 1, none⟩) (by simp)]; simp [go_sem]
      have hbw : Below w.heap.size w wr := (below1 w _).trans (hbl.mono (by omega))
      by_cases hz : 0 ≤ z
      · obtain ⟨m, rfl⟩ := Int.eq_ofNat_of_zero_le hz
        have c1 : wr.cell? ⟨b, m, none⟩ = some (.int .u8 (at0 D m)) := by rw [hbw.cell (p := ⟨b, m, none⟩) hb]; exact HC.out m (by omega)
        have k9 := at0_le D H9.out m
        have e1 : (48 : Int) + (at0 D m : Int) = ((48 + at0 D m : Nat) : Int) := by omega
        have E1 := Lib.hid e1; clear e1
        have HOWN := Lib.hid hown; clear hown
        go_wp2_with (at_builtin; refine wpList_append_own _ rfl (.tmp 22) (.tmp 29) 84 rfl (w.heap.size + 1) 5 i0 (.int .u8 0) 1 1 Tryz.underlying84 hi hz0 hz1 hz2 rfl (by decide) _ ds.length (vs ds) rfl (HOWN.out.alloc _) ⟨wr.heap.size, 0, none⟩ 1 1 [.int .u8 (48 + (at0 D m : Int))] rfl rfl (one_new _ _ _) (by intro u hu; simp at hu; subst hu; rfl) (by unfold maxLen; omega) (by omega) (by simp; omega) ?_)
        intro v' w' hown' hgrow _
        obtain ⟨a', cap', rfl⟩ := own_shape hown'
        rw [E1.out] at hown'
        have h2 : Below (w.heap.size + 1) wr w' := ((below1 wr _).mono (by omega)).grown hgrow (by simp; omega) (fun j hj => (HOWN.out.lt j hj).1)
        have hown2 : w'.ownsRow (w.heap.size + 1) 5 1 (.slice a' (ds.length + 1) cap') (ds ++ [48 + at0 D m]).length (vs (ds ++ [48 + at0 D m])) := by rw [vs_snoc, List.length_append]; exact hown'
        have HO2 := Lib.hid hown2; clear hown2
        have hs2 : w.heap.size + 1 ≤ w'.heap.size := by have := h2.size; omega
        have HB3 := Lib.hid (hbl.trans h2)
        clear hown' hgrow h2 hbl hbw
        go_wp2_with fail
        go_roundw
        case rel =>
          first
            | exact ⟨(m : Int) - 1, ds ++ [48 + at0 D m], by omega, by omega, rfl, by rw [List.length_append, List.length_singleton]; omega, Lib.hid (by
            have e := hds.out
            rw [show ((m : Int) + 1).toNat = m + 1 from by omega] at e
            rw [show ((m : Int) - 1 + 1).toNat = m from by omega, drop_at0 (by omega), e]
            simp), HB3.out, hs2, HO2.out⟩
            | ((repeat apply Exists.intro); exact ⟨⟨(m : Int) - 1, ds ++ [48 + at0 D m], by omega, by omega, rfl, by rw [List.length_append, List.length_singleton]; omega, Lib.hid (by
            have e := hds.out
            rw [show ((m : Int) + 1).toNat = m + 1 from by omega] at e
            rw [show ((m : Int) - 1 + 1).toNat = m from by omega, drop_at0 (by omega), e]
            simp), HB3.out, hs2, HO2.out⟩, rfl⟩)
        case measure => simp [intOf] <;> omega
      · have hz3 : z = -1 := by omega
        subst hz3
        have hd2 : ds = ([45] : List Nat) ++ D.reverse.map (48 + ·) := hds.out
        have hp : 0 < ds.length := by rw [hd2]; simp <;> omega
        have hcv := conv_own hown hp
        have hfin : ds.map (fun d => UInt8.ofNat d) = Lib.itoa x := by rw [HIT.out, hd2]
        rw [hfin] at hcv
        obtain ⟨a', cap', rfl⟩ := own_shape hown
        clear hd2 hp hfin hown
        go_wp2_with fail
        go_ret
        exact ⟨rfl, hbw⟩
  · go_enter Tryz.func55, Tryz.ntmps55
    go_wp2_with fail
    go_loopw [3, 4] (fun v i wr => ∃ (z : Int) (ds : List Nat), -1 ≤ z ∧ z < D.length ∧ i = .int .i64 z ∧ ds.length ≤ 1001 - z ∧ Hid (ds = ([] : List Nat) ++ (D.drop (z + 1).toNat).reverse.map (48 + ·)) ∧ Below (w.heap.size + 1) (w.alloc (.cells #[.bool false, .slice (some ⟨b, 0, none⟩) D.length cap] NT)) wr ∧ w.heap.size + 1 ≤ wr.heap.size ∧ wr.ownsRow (w.heap.size + 1) 5 1 v ds.length (vs ds)) (fun v i _ => (intOf i + 1).toNat)
    case atStart => exact ⟨(D.length : Int) - 1, [], by omega, by omega, rfl, by simp; omega, Lib.hid (by rw [show ((D.length : Int) - 1 + 1).toNat = D.length from by omega]; simp), Below.refl _ _, by simp, World.ownsRow_nil _ _ _ _⟩
    case round =>
      obtain ⟨z, ds, hz1', hz2', rfl, hln, hds, hbl, hsz, hown⟩ := hrel
      have hA1 : wr.cell? ⟨w.heap.size, 1, none⟩ = some (.slice (some ⟨b, 0, none⟩) D.length cap) := by rw [hbl.cell (p := ⟨w.heap.size, 1, none⟩) (by simp)]; simp [go_sem]
      have hbw : Below w.heap.size w wr := (below1 w _).trans (hbl.mono (by omega))
      by_cases hz : 0 ≤ z
      · obtain ⟨m, rfl⟩ := Int.eq_ofNat_of_zero_le hz
        have c1 : wr.cell? ⟨b, m, none⟩ = some (.int .u8 (at0 D m)) := by rw [hbw.cell (p := ⟨b, m, none⟩) hb]; exact HC.out m (by omega)
        have k9 := at0_le D H9.out m
        have e1 : (48 : Int) + (at0 D m : Int) = ((48 + at0 D m : Nat) : Int) := by omega
        have E1 := Lib.hid e1; clear e1
        have HOWN := Lib.hid hown; clear hown
        go_wp2_with (at_builtin; refine wpList_append_own _ rfl (.tmp 22) (.tmp 29) 84 rfl (w.heap.size + 1) 5 i0 (.int .u8 0) 1 1 Tryz.underlying84 hi hz0 hz1 hz2 rfl (by decide) _ ds.length (vs ds) rfl (HOWN.out.alloc _) ⟨wr.heap.size, 0, none⟩ 1 1 [.int .u8 (48 + (at0 D m : Int))] rfl rfl (one_new _ _ _) (by intro u hu; simp at hu; subst hu; rfl) (by unfold maxLen; omega) (by omega) (by simp; omega) ?_)
        intro v' w' hown' hgrow _
        obtain ⟨a', cap', rfl⟩ := own_shape hown'
        rw [E1.out] at hown'
        have h2 : Below (w.heap.size + 1) wr w' := ((below1 wr _).mono (by omega)).grown hgrow (by simp; omega) (fun j hj => (HOWN.out.lt j hj).1)
        have hown2 : w'.ownsRow (w.heap.size + 1) 5 1 (.slice a' (ds.length + 1) cap') (ds ++ [48 + at0 D m]).length (vs (ds ++ [48 + at0 D m])) := by rw [vs_snoc, List.length_append]; exact hown'
        have HO2 := Lib.hid hown2; clear hown2
        have hs2 : w.heap.size + 1 ≤ w'.heap.size := by have := h2.size; omega
        have HB3 := Lib.hid (hbl.trans h2)
        clear hown' hgrow h2 hbl hbw
        go_wp2_with fail
        go_roundw
        case rel =>
          first
            | exact ⟨(m : Int) - 1, ds ++ [48 + at0 D m], by omega, by omega, rfl, by rw [List.length_append, List.length_singleton]; omega, Lib.hid (by
            have e := hds.out
            rw [show ((m : Int) + 1).toNat = m + 1 from by omega] at e
            rw [show ((m : Int) - 1 + 1).toNat = m from by omega, drop_at0 (by omega), e]
            simp), HB3.out, hs2, HO2.out⟩
            | ((repeat apply Exists.intro); exact ⟨⟨(m : Int) - 1, ds ++ [48 + at0 D m], by omega, by omega, rfl, by rw [List.length_append, List.length_singleton]; omega, Lib.hid (by
            have e := hds.out
            rw [show ((m : Int) + 1).toNat = m + 1 from by omega] at e
            rw [show ((m : Int) - 1 + 1).toNat = m from by omega, drop_at0 (by omega), e]
            simp), HB3.out, hs2, HO2.out⟩, rfl⟩)
        case measure => simp [intOf] <;> omega
      · have hz3 : z = -1 := by omega
        subst hz3
        have hd2 : ds = ([] : List Nat) ++ D.reverse.map (48 + ·) := hds.out
        have hp : 0 < ds.length := by rw [hd2]; simp <;> omega
        have hcv := conv_own hown hp
        have hfin : ds.map (fun d => UInt8.ofNat d) = Lib.itoa x := by rw [HIT.out, hd2]
        rw [hfin] at hcv
        obtain ⟨a', cap', rfl⟩ := own_shape hown
        clear hd2 hp hfin hown
        go_wp2_with fail
        go_ret
        exact ⟨rfl, hbw⟩

theorem ref_text (x : Int) (va : Value) (w : World) (hd : Digs w va (dg x.natAbs)) (hx : (dg x.natAbs).length ≤ 1000) :
    Calls Tryz.prog 55 #[.agg #[.bool (decide (x < 0)), va]] w fun e w' => e = .returned (.string ⟨(Lib.itoa x).toArray⟩) ∧ Below w.heap.size w w' := by
  by_cases h : x = 0
  · subst h; exact text_zero va w hd
  · exact text_some x va w hd hx h
end Go.Proofs.YtoafigehcgledaaGreatDoor.R1
