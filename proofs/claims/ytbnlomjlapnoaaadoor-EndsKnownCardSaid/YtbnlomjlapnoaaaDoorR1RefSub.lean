/-
  DERIVED. CONTRACT of the reference's Add: other signs; all signs.
-/
import Derived.Test.YtbnlomjlapnoaaaDoorR1RefAdd
namespace Go.Proofs.YtbnlomjlapnoaaaDoor.R1
open Go.RowKit

theorem sub_step {A B ds : List Nat} {c c2 d X Y : Nat} (h : vl ds + 10 ^ ds.length * vl (A.drop ds.length) + Y = X + 10 ^ ds.length * (c + vl (B.drop ds.length))) (hd : d + at0 B ds.length + c = at0 A ds.length + 10 * c2) :
    vl (ds ++ [d]) + 10 ^ (ds ++ [d]).length * vl (A.drop (ds.length + 1)) + Y = X + 10 ^ (ds ++ [d]).length * (c2 + vl (B.drop (ds.length + 1))) := by
  rw [vl_snoc, List.length_append, List.length_singleton, Nat.pow_succ]
  rw [vl_drop A ds.length, vl_drop B ds.length] at h
  generalize at0 A ds.length = x at *
  generalize at0 B ds.length = y at *
  generalize vl (A.drop (ds.length + 1)) = P at *
  generalize vl (B.drop (ds.length + 1)) = Q at *
  generalize 10 ^ ds.length = p at *
  rw [Nat.mul_assoc, Nat.mul_assoc]
  have e1 : p * (x + 10 * P) = p * x + p * (10 * P) := Nat.mul_add _ _ _
  have e2 : p * (c + (y + 10 * Q)) = p * c + p * y + p * (10 * Q) := by rw [Nat.mul_add, Nat.mul_add, ← Nat.add_assoc]
  have e3 : p * d + p * y + p * c = p * x + p * (10 * c2) := by rw [← Nat.mul_add, ← Nat.mul_add, ← Nat.mul_add, hd]
  have e4 : p * (10 * (c2 + Q)) = p * (10 * c2) + p * (10 * Q) := by rw [Nat.mul_add 10, Nat.mul_add]
  rw [e1, e2] at h
  rw [e4]
  omega
theorem sub_end {ds : List Nat} {c q X Y : Nat} (h9 : ∀ d ∈ ds, d ≤ 9) (h : vl ds + Y = X + 10 ^ ds.length * (c + q)) (hXY : Y ≤ X) : vl ds = X - Y := by
  have h1 := vl_lt ds h9
  rcases Nat.eq_zero_or_pos (c + q) with e | e
  · rw [e] at h; simp at h; omega
  · have : 10 ^ ds.length * 1 ≤ 10 ^ ds.length * (c + q) := Nat.mul_le_mul_left _ e
    omega

set_option maxRecDepth 100000 in
set_option maxHeartbeats 1000000 in
theorem add_sub (x y : Int) (va vb : Value) (w : World) (ha : Digs w va (dg x.natAbs)) (hb : Digs w vb (dg y.natAbs)) (hs : ¬ decide (x < 0) = decide (y < 0)) (hge : y.natAbs ≤ x.natAbs) (hx : (dg x.natAbs).length ≤ 1000) (_hy : (dg y.natAbs).length ≤ 1000) :
    Calls Tryd.prog 47 #[.agg #[.bool (decide (x < 0)), va], .agg #[.bool (decide (y < 0)), vb]] w (SomeNum (x + y) w []) := by
  obtain ⟨i0, hi, hz0, hz1, hz2⟩ := info_parts info5
  obtain ⟨p1, q1, rfl⟩ := ha.head
  obtain ⟨p2, q2, rfl⟩ := hb.head
  have HA := Lib.hid ha; clear ha
  have HB := Lib.hid hb; clear hb
  have HS := Lib.hid hs; clear hs
  generalize hA : dg x.natAbs = A at *
  generalize hB : dg y.natAbs = B at *
  have H1 := Lib.hid hA; clear hA
  have H2 := Lib.hid hB; clear hB
  have cA : Can A := by rw [← H1.out]; exact Can.dg _
  have cB : Can B := by rw [← H2.out]; exact Can.dg _
  have hless : lessB A B = false := by unfold lessB; rw [← H1.out, ← H2.out, vl_dg, vl_dg, decide_eq_false (by omega)]
  have hcl := fun (w1 : World) (ha : Digs w1 (.slice p1 A.length q1) A) (hb : Digs w1 (.slice p2 B.length q2) B) => less_any _ _ A B w1 ha hb cA cB
  rw [hless] at hcl
  have HCL := Lib.hid hcl; clear hcl hless
  generalize hneg : decide (x < 0) = neg at *
  have HN := Lib.hid hneg; clear hneg
  generalize hneg2 : decide (y < 0) = neg2 at *
  have HN2 := Lib.hid hneg2; clear hneg2
  have hne : (neg == neg2) = false := by have := HS.out; cases neg <;> cases neg2 <;> first | rfl | exact absurd rfl this
  go_enter Tryd.func47, Tryd.ntmps47
  go_wp2_with fail
  refine (HCL.out _ (HA.out.below (below3 w _ _ _)) (HB.out.below (below3 w _ _ _))).mono ?_
  rintro e w1 ⟨rfl, hb1⟩
  have hk := hb1.size
  simp only [World.size_alloc] at hk
  have HB1 := Lib.hid hb1
  have m0 : w1.cell? ⟨w.heap.size, 0, none⟩ = some (.bool neg) := by rw [hb1.cell (p := ⟨w.heap.size, 0, none⟩) (by simp <;> omega)]; simp [go_sem]
  clear hb1
  go_wp2_with fail
  go_loopw [10, 11] (fun c i wr => ∃ (cn : Nat) (ds : List Nat) (v : Value), c = .int .i64 cn ∧ i = .int .i64 ds.length ∧ cn ≤ 1 ∧ ds.length ≤ A.length ∧ Hid ((∀ d ∈ ds, d ≤ 9) ∧ vl ds + 10 ^ ds.length * vl (A.drop ds.length) + y.natAbs = x.natAbs + 10 ^ ds.length * (cn + vl (B.drop ds.length))) ∧ SumRel w1.heap.size neg w1 ds v wr) (fun c i _ => A.length - (intOf i).toNat)
  case atStart => exact ⟨0, [], .slice none 0 0, rfl, rfl, by omega, by simp, Lib.hid ⟨by simp, by rw [← H1.out, ← H2.out]; simp [vl, vl_dg]⟩, ⟨(Below.refl _ _).alloc (Nat.le_refl _) _, by simp, by simp [go_sem], by simp [go_sem], by simp [go_sem], by simp [go_sem], World.ownsRow_nil _ _ _ _⟩⟩
  case round =>
    obtain ⟨cn, ds, v, rfl, rfl, hc, hl, hv, R⟩ := hrel
    have hbl := R.below
    have hA1 : wr.cell? ⟨w.heap.size, 1, none⟩ = some (.slice p1 A.length q1) := by rw [hbl.cell (p := ⟨w.heap.size, 1, none⟩) (show w.heap.size < w1.heap.size by omega), HB1.out.cell (p := ⟨w.heap.size, 1, none⟩) (by simp <;> omega)]; simp [go_sem]
    have hB1 : wr.cell? ⟨w.heap.size + 1, 1, none⟩ = some (.slice p2 B.length q2) := by rw [hbl.cell (p := ⟨w.heap.size + 1, 1, none⟩) (show w.heap.size + 1 < w1.heap.size by omega), HB1.out.cell (p := ⟨w.heap.size + 1, 1, none⟩) (by simp <;> omega)]; simp [go_sem]
    have hc1 := R.c1
    by_cases t1 : ds.length < A.length
    · have hbw : Below w.heap.size w wr := (below3 w _ _ _).trans ((HB1.out.mono (by simp; omega)).trans (hbl.mono (by omega)))
      have dA : Digs wr (.slice p1 A.length q1) A := HA.out.below hbw
      have dB : Digs wr (.slice p2 B.length q2) B := HB.out.below hbw
      have a9 : ∀ d ∈ A, d ≤ 9 := by rw [← H1.out]; exact dg_le _
      have b9 : ∀ d ∈ B, d ≤ 9 := by rw [← H2.out]; exact dg_le _
      have kA := at0_le A a9 ds.length
      have kB := at0_le B b9 ds.length
      have cA := fun nq => digit_q (.slice p1 A.length q1) A ds.length (wr.drewN nq) (dA.below (below_drewN (Below.refl _ _) nq)) (by omega) a9
      have cB := fun nq => digit_q (.slice p2 B.length q2) B ds.length (wr.drewN nq) (dB.below (below_drewN (Below.refl _ _) nq)) (by omega) b9
      have CA := Lib.hid cA; clear cA
      have CB := Lib.hid cB; clear cB
      clear a9 b9 dA dB hbw
      have RR := Lib.hid R; clear R
      generalize hda : at0 A ds.length = da at *
      generalize hdb : at0 B ds.length = db at *
      have HDA := Lib.hid hda; clear hda
      have HDB := Lib.hid hdb; clear hdb
      have ws1 : IntKind.i64.wrap ((da : Int) - (db : Int)) = (da : Int) - (db : Int) := IntWalk.i64_in _ (by omega)
      have ws2 : IntKind.i64.wrap ((da : Int) - (db : Int) - (cn : Int)) = (da : Int) - (db : Int) - (cn : Int) := IntWalk.i64_in _ (by omega)
      have RO : ∀ nq, (wr.drewN nq).ownsRow (w1.heap.size + 1) 5 1 v ds.length (vs ds) := fun nq => RR.out.own
      have RO := Lib.hid RO
      have bs : -10 ≤ (da : Int) - (db : Int) - (cn : Int) ∧ (da : Int) - (db : Int) - (cn : Int) ≤ 9 := by omega
      by_cases hneg3 : (da : Int) - (db : Int) - (cn : Int) < 0
      · have e1 : (da : Int) - (db : Int) - (cn : Int) + 10 = (((da + 10 - db - cn) : Nat) : Int) := by omega
        have E1 := Lib.hid e1; clear e1
        go_wp2_with fail
        go_quiet ((first | (go_at_call 66; with_reducible exact Calls.quiet_of_same (CA.out _)) | (go_at_call 66; with_reducible exact Calls.quiet_of_same (CB.out _))))
        clear ws1 ws2
        generalize hs3 : (da : Int) - (db : Int) - (cn : Int) = s at *
        have HS3 := Lib.hid hs3; clear hs3
        obtain ⟨bs1, bs2⟩ := bs
        go_wp2_with (at_builtin; refine wpList_append_own _ rfl (.tmp 96) (.tmp 99) 55 rfl (w1.heap.size + 1) 5 i0 (.int .u8 0) 1 1 Tryd.underlying55 hi hz0 hz1 hz2 rfl (by decide) v ds.length (vs ds) rfl ((RO.out _).alloc _) ⟨wr.heap.size, 0, none⟩ 1 1 [.int .u8 (s + 10)] rfl rfl (one_newN _ _ _ _) (by intro u hu; simp at hu; subst hu; rfl) (by unfold maxLen; omega) (by omega) (size_newN _ _ _ _ RR.out.size) ?_)
        intro v' w' hown' hgrow _
        obtain ⟨a', cap', rfl⟩ := own_shape hown'
        rw [E1.out] at hown'
        obtain ⟨hR, k1, kf1⟩ := RR.out.round ((below_drewN (Below.refl _ _) _).alloc (by simp) _) hgrow _ hown'
        have HR := Lib.hid hR; clear hR
        clear hown' hgrow
        go_wp2_with fail
        go_roundw
        case rel => exact ⟨1, ds ++ [(da + 10 - db - cn)], _, rfl, by simp, by omega, by simp; omega, Lib.hid ⟨by
            intro d hd
            rcases List.mem_append.1 hd with h | h
            · exact hv.out.1 d h
            · simp at h; have := HS3.out; omega, by
            have := HS3.out
            have := sub_step (A := A) (B := B) (c2 := 1) (d := (da + 10 - db - cn)) hv.out.2 (by rw [HDA.out, HDB.out]; omega)
            rw [List.length_append, List.length_singleton] at this ⊢
            exact this⟩, HR.out⟩
        case measure => simp [intOf]; omega
      · have e1 : (da : Int) - (db : Int) - (cn : Int) = (((da - db - cn) : Nat) : Int) := by omega
        have E1 := Lib.hid e1; clear e1
        go_wp2_with fail
        go_quiet ((first | (go_at_call 66; with_reducible exact Calls.quiet_of_same (CA.out _)) | (go_at_call 66; with_reducible exact Calls.quiet_of_same (CB.out _))))
        clear ws1 ws2
        generalize hs3 : (da : Int) - (db : Int) - (cn : Int) = s at *
        have HS3 := Lib.hid hs3; clear hs3
        obtain ⟨bs1, bs2⟩ := bs
        go_wp2_with (at_builtin; refine wpList_append_own _ rfl (.tmp 96) (.tmp 99) 55 rfl (w1.heap.size + 1) 5 i0 (.int .u8 0) 1 1 Tryd.underlying55 hi hz0 hz1 hz2 rfl (by decide) v ds.length (vs ds) rfl ((RO.out _).alloc _) ⟨wr.heap.size, 0, none⟩ 1 1 [.int .u8 s] rfl rfl (one_newN _ _ _ _) (by intro u hu; simp at hu; subst hu; rfl) (by unfold maxLen; omega) (by omega) (size_newN _ _ _ _ RR.out.size) ?_)
        intro v' w' hown' hgrow _
        obtain ⟨a', cap', rfl⟩ := own_shape hown'
        rw [E1.out] at hown'
        obtain ⟨hR, k1, kf1⟩ := RR.out.round ((below_drewN (Below.refl _ _) _).alloc (by simp) _) hgrow _ hown'
        have HR := Lib.hid hR; clear hR
        clear hown' hgrow
        go_wp2_with fail
        go_roundw
        case rel => exact ⟨0, ds ++ [(da - db - cn)], _, rfl, by simp, by omega, by simp; omega, Lib.hid ⟨by
            intro d hd
            rcases List.mem_append.1 hd with h | h
            · exact hv.out.1 d h
            · simp at h; have := HS3.out; omega, by
            have := HS3.out
            have := sub_step (A := A) (B := B) (c2 := 0) (d := (da - db - cn)) hv.out.2 (by rw [HDA.out, HDB.out]; omega)
            rw [List.length_append, List.length_singleton] at this ⊢
            exact this⟩, HR.out⟩
        case measure => simp [intOf]; omega
    · have hlen : ds.length = A.length := by omega
      obtain ⟨a, cap, rfl, hD, hf⟩ := own_digs R.own (by omega)
      have hval : nv neg ds = x + y := by
        have h := hv.out.2
        rw [List.drop_eq_nil_of_le (by omega : A.length ≤ ds.length)] at h
        have h2 : vl ds = x.natAbs - y.natAbs := sub_end hv.out.1 (by simpa [vl] using h) hge
        have hn := HN.out
        have hn2 := HN2.out
        have hs := HS.out
        unfold nv
        rw [h2]
        cases neg with
        | true =>
          have g1 : x < 0 := of_decide_eq_true hn
          have g2 : ¬ y < 0 := by intro g; exact hs (by rw [← hn2, decide_eq_true g])
          simp; omega
        | false =>
          have g1 : ¬ x < 0 := of_decide_eq_false hn
          have g2 : y < 0 := Decidable.byContradiction fun g => hs (by rw [← hn2, decide_eq_false g])
          simp; omega
      have r0 : wr.cell? ⟨w.heap.size + 1 + 1, 0, none⟩ = some (.bool false) := by rw [hbl.cell (p := ⟨w.heap.size + 1 + 1, 0, none⟩) (show w.heap.size + 1 + 1 < w1.heap.size by omega), HB1.out.cell (p := ⟨w.heap.size + 1 + 1, 0, none⟩) (by simp <;> omega)]; simp [go_sem]
      have r1 : wr.cell? ⟨w.heap.size + 1 + 1, 1, none⟩ = some (.slice none 0 0) := by rw [hbl.cell (p := ⟨w.heap.size + 1 + 1, 1, none⟩) (show w.heap.size + 1 + 1 < w1.heap.size by omega), HB1.out.cell (p := ⟨w.heap.size + 1 + 1, 1, none⟩) (by simp <;> omega)]; simp [go_sem]
      have g0 : wr.frozen? ⟨w.heap.size + 1 + 1, 0, none⟩ = false := by rw [hbl.frozen (p := ⟨w.heap.size + 1 + 1, 0, none⟩) (show w.heap.size + 1 + 1 < w1.heap.size by omega), HB1.out.frozen (p := ⟨w.heap.size + 1 + 1, 0, none⟩) (by simp)]; simp [go_sem]
      have g1 : wr.frozen? ⟨w.heap.size + 1 + 1, 1, none⟩ = false := by rw [hbl.frozen (p := ⟨w.heap.size + 1 + 1, 1, none⟩) (show w.heap.size + 1 + 1 < w1.heap.size by omega), HB1.out.frozen (p := ⟨w.heap.size + 1 + 1, 1, none⟩) (by simp)]; simp [go_sem]
      have hsz := R.size
      have HB2 := Lib.hid (show Below w.heap.size w wr from (below3 w _ _ _).trans ((HB1.out.mono (by simp; omega)).trans (hbl.mono (by omega))))
      have ct := fun (w1 : World) (h : Digs w1 (.slice a ds.length cap) ds) => ref_trim neg _ ds w1 h hv.out.1
      rw [hval] at ct
      have CT := Lib.hid ct; clear ct
      have HD := Lib.hid hD; clear hD
      have HF := Lib.hid hf; clear hf
      have hc0 := R.c0
      clear R hval hbl hlen
      go_wp2_with fail
      refine (CT.out _ HD.out).mono ?_
      rintro e w2 ⟨⟨a1, cap1, rfl, hd1, hf1⟩, hb2⟩
      have D1 := Lib.hid hd1; clear hd1
      have c0 : w2.cell? ⟨w.heap.size + 1 + 1, 0, none⟩ = some (.bool false) := by rw [hb2.cell (p := ⟨w.heap.size + 1 + 1, 0, none⟩) (show w.heap.size + 1 + 1 < wr.heap.size by omega)]; exact r0
      have c1 : w2.cell? ⟨w.heap.size + 1 + 1, 1, none⟩ = some (.slice none 0 0) := by rw [hb2.cell (p := ⟨w.heap.size + 1 + 1, 1, none⟩) (show w.heap.size + 1 + 1 < wr.heap.size by omega)]; exact r1
      have f0 : w2.frozen? ⟨w.heap.size + 1 + 1, 0, none⟩ = false := by rw [hb2.frozen (p := ⟨w.heap.size + 1 + 1, 0, none⟩) (show w.heap.size + 1 + 1 < wr.heap.size by omega)]; exact g0
      have f1 : w2.frozen? ⟨w.heap.size + 1 + 1, 1, none⟩ = false := by rw [hb2.frozen (p := ⟨w.heap.size + 1 + 1, 1, none⟩) (show w.heap.size + 1 + 1 < wr.heap.size by omega)]; exact g1
      have hb0 := HB2.out.trans (hb2.mono (by omega))
      clear hb2 r0 r1 g0 g1
      have HF1 := Lib.hid hf1; clear hf1
      go_wp2_with fail
      refine bodyPost_ret (v := .agg #[.bool (decide (x + y < 0)), .slice a1 (dg (x + y).natAbs).length cap1]) (by simp [results, Tryd.results47, go_sem, c0, c1]) rfl ?_
      exact SomeNum.stored rfl hb0 (by omega) D1.out (fun p hp => .inl (by
        rcases HF1.out p hp with h | h
        · omega
        · cases a with
          | none => simp [sb] at h
          | some q => simp [sb] at h; have := HF.out q rfl; omega)) (fun _ h => by cases h)

set_option maxRecDepth 100000 in
set_option maxHeartbeats 1000000 in
theorem add_swap (x y : Int) (va vb : Value) (w : World) (ha : Digs w va (dg x.natAbs)) (hb : Digs w vb (dg y.natAbs)) (hs : ¬ decide (x < 0) = decide (y < 0)) (hlt : x.natAbs < y.natAbs) (hx : (dg x.natAbs).length ≤ 1000) (hy : (dg y.natAbs).length ≤ 1000) :
    Calls Tryd.prog 47 #[.agg #[.bool (decide (x < 0)), va], .agg #[.bool (decide (y < 0)), vb]] w (SomeNum (x + y) w []) := by
  obtain ⟨p1, q1, rfl⟩ := ha.head
  obtain ⟨p2, q2, rfl⟩ := hb.head
  have hcl := fun (w1 : World) (ha : Digs w1 (.slice p1 (dg x.natAbs).length q1) (dg x.natAbs)) (hb : Digs w1 (.slice p2 (dg y.natAbs).length q2) (dg y.natAbs)) => less_any _ _ (dg x.natAbs) (dg y.natAbs) w1 ha hb (Can.dg _) (Can.dg _)
  have hless : lessB (dg x.natAbs) (dg y.natAbs) = true := by unfold lessB; rw [vl_dg, vl_dg, decide_eq_true hlt]
  rw [hless] at hcl
  have HCL := Lib.hid hcl; clear hcl hless
  have hre := fun (w1 : World) (ha : Digs w1 (.slice p1 (dg x.natAbs).length q1) (dg x.natAbs)) (hb : Digs w1 (.slice p2 (dg y.natAbs).length q2) (dg y.natAbs)) => add_sub y x _ _ w1 hb ha (fun e => hs e.symm) (by omega) hy hx
  rw [Int.add_comm y x] at hre
  have HRE := Lib.hid hre; clear hre
  have HA := Lib.hid ha; clear ha
  have HB := Lib.hid hb; clear hb
  have hne : (decide (x < 0) == decide (y < 0)) = false := by cases h1 : decide (x < 0) <;> cases h2 : decide (y < 0) <;> first | rfl | (rw [h1, h2] at hs; exact absurd rfl hs)
  clear hs
  generalize decide (x < 0) = neg at *
  generalize decide (y < 0) = neg2 at *
  generalize dg x.natAbs = A at *
  generalize dg y.natAbs = B at *
  go_enter Tryd.func47, Tryd.ntmps47
  go_wp2_with fail
  refine (HCL.out _ (HA.out.below (below3 w _ _ _)) (HB.out.below (below3 w _ _ _))).mono ?_
  rintro e w1 ⟨rfl, hb1⟩
  have hk := hb1.size
  simp only [World.size_alloc] at hk
  have HB1 := Lib.hid hb1
  have m0 : w1.cell? ⟨w.heap.size, 0, none⟩ = some (.bool neg) := by rw [hb1.cell (p := ⟨w.heap.size, 0, none⟩) (by simp <;> omega)]; simp [go_sem]
  have m1 : w1.cell? ⟨w.heap.size, 1, none⟩ = some (.slice p1 A.length q1) := by rw [hb1.cell (p := ⟨w.heap.size, 1, none⟩) (by simp <;> omega)]; simp [go_sem]
  have m2 : w1.cell? ⟨w.heap.size + 1, 0, none⟩ = some (.bool neg2) := by rw [hb1.cell (p := ⟨w.heap.size + 1, 0, none⟩) (by simp <;> omega)]; simp [go_sem]
  have m3 : w1.cell? ⟨w.heap.size + 1, 1, none⟩ = some (.slice p2 B.length q2) := by rw [hb1.cell (p := ⟨w.heap.size + 1, 1, none⟩) (by simp <;> omega)]; simp [go_sem]
  clear hb1
  go_wp2_with fail
  refine (HRE.out _ (HA.out.below ((below3 w _ _ _).trans (HB1.out.mono (by simp; omega)))) (HB.out.below ((below3 w _ _ _).trans (HB1.out.mono (by simp; omega))))).mono ?_
  rintro e w2 ⟨⟨a1, cap1, rfl, hd1, hf1⟩, hb2⟩
  have D1 := Lib.hid hd1; clear hd1
  have hb02 := HB1.out.trans (hb2.mono (by simp; omega))
  have c0 : w2.cell? ⟨w.heap.size + 1 + 1, 0, none⟩ = some (.bool false) := by rw [hb02.cell (p := ⟨w.heap.size + 1 + 1, 0, none⟩) (by simp <;> omega)]; simp [go_sem]
  have c1 : w2.cell? ⟨w.heap.size + 1 + 1, 1, none⟩ = some (.slice none 0 0) := by rw [hb02.cell (p := ⟨w.heap.size + 1 + 1, 1, none⟩) (by simp <;> omega)]; simp [go_sem]
  have f0 : w2.frozen? ⟨w.heap.size + 1 + 1, 0, none⟩ = false := by rw [hb02.frozen (p := ⟨w.heap.size + 1 + 1, 0, none⟩) (by simp <;> omega)]; simp [go_sem]
  have f1 : w2.frozen? ⟨w.heap.size + 1 + 1, 1, none⟩ = false := by rw [hb02.frozen (p := ⟨w.heap.size + 1 + 1, 1, none⟩) (by simp <;> omega)]; simp [go_sem]
  have hb0 := (below3 w _ _ _).trans (hb02.mono (by simp; omega))
  clear hb2 hb02
  have HF1 := Lib.hid hf1; clear hf1
  go_wp2_with fail
  refine bodyPost_ret (v := .agg #[.bool (decide (x + y < 0)), .slice a1 (dg (x + y).natAbs).length cap1]) (by simp [results, Tryd.results47, go_sem, c0, c1]) rfl ?_
  exact SomeNum.stored rfl hb0 (by omega) D1.out (fun p hp => .inl (by
    rcases HF1.out p hp with h | h
    · omega
    · simp at h)) (fun _ h => by cases h)

theorem ref_add (x y : Int) (va vb : Value) (w : World) (ha : Digs w va (dg x.natAbs)) (hb : Digs w vb (dg y.natAbs)) (hx : (dg x.natAbs).length ≤ 1000) (hy : (dg y.natAbs).length ≤ 1000) :
    Calls Tryd.prog 47 #[.agg #[.bool (decide (x < 0)), va], .agg #[.bool (decide (y < 0)), vb]] w (SomeNum (x + y) w []) := by
  by_cases hs : decide (x < 0) = decide (y < 0)
  · exact add_same x y va vb w ha hb hs hx hy
  · by_cases h : y.natAbs ≤ x.natAbs
    · exact add_sub x y va vb w ha hb hs h hx hy
    · exact add_swap x y va vb w ha hb hs (by omega) hx hy
end Go.Proofs.YtbnlomjlapnoaaaDoor.R1
