/-
  DERIVED. CONTRACT of the reference's Add.
-/
import Derived.Test.YtbnlomjlapnoaaaDoorR1RefOf
namespace Go.Proofs.YtbnlomjlapnoaaaDoor.R1
open Go.RowKit

theorem digit_q (v : Value) (ds : List Nat) (i : Nat) (w : World) (h : Digs w v ds) (hi : i ≤ 1000000) (h9 : ∀ d ∈ ds, d ≤ 9) :
    Calls Tryd.prog 66 #[v, .int .i64 i] w fun e w' => e = .returned (.int .i64 (at0 ds i)) ∧ w' = w :=
  (digit_any v ds i w h hi h9).mono fun _ _ ⟨a, b⟩ => ⟨a, b.symm⟩

theorem one_newN (w : World) (n : Nat) (x : Value) (t : TypeId) : ∀ j u, [x][j]? = some u → ((w.drewN n).alloc (.cells #[x] t)).cell? ((⟨w.heap.size, 0, none⟩ : Addr).add j) = some u := one_new (w.drewN n) x t
theorem size_newN (w : World) (n k : Nat) (o : Obj) (h : k ≤ w.heap.size) : k ≤ ((w.drewN n).alloc o).heap.size := by simp; omega
theorem at0_behind {l : List Nat} {i : Nat} (h : l.length ≤ i) : at0 l i = 0 := by unfold at0; rw [List.getD_eq_getElem?_getD, List.getElem?_eq_none h]; rfl
/-- what the loop of a sum (a difference) leaves: the digits so far, in the own block k; the argument blocks as they were -/
structure SumRel (k : Nat) (neg : Bool) (w0 : World) (ds : List Nat) (v : Value) (wr : World) : Prop where
  below : Below k w0 wr
  size : k < wr.heap.size
  c0 : wr.cell? ⟨k, 0, none⟩ = some (.bool neg)
  c1 : wr.cell? ⟨k, 1, none⟩ = some v
  f0 : wr.frozen? ⟨k, 0, none⟩ = false
  f1 : wr.frozen? ⟨k, 1, none⟩ = false
  own : wr.ownsRow (k + 1) 5 1 v ds.length (vs ds)
theorem SumRel.round {k : Nat} {neg : Bool} {w0 wr wa w' : World} {ds : List Nat} {v v' : Value} (R : SumRel k neg w0 ds v wr) (ha : Below wr.heap.size wr wa) (hg : wa.grownBy w' v.ownBlock) (d : Nat) (hown' : w'.ownsRow (k + 1) 5 1 v' (ds.length + 1) (vs ds ++ [.int .u8 d])) :
    SumRel k neg w0 (ds ++ [d]) v' (w'.setCell ⟨k, 1, none⟩ v') ∧ w'.cell? ⟨k, 1, none⟩ = some v ∧ w'.frozen? ⟨k, 1, none⟩ = false := by
  obtain ⟨hbl, hsz, hc0, hc1, hf0, hf1, hown⟩ := R
  have h2 : Below (k + 1) wr w' := (ha.mono (by omega)).grown hg (by have := ha.size; omega) (fun j hj => (hown.lt j hj).1)
  have k0 : w'.cell? ⟨k, 0, none⟩ = some (.bool neg) := by rw [h2.cell (p := ⟨k, 0, none⟩) (by simp)]; exact hc0
  have k1 : w'.cell? ⟨k, 1, none⟩ = some v := by rw [h2.cell (p := ⟨k, 1, none⟩) (by simp)]; exact hc1
  have g0 : w'.frozen? ⟨k, 0, none⟩ = false := by rw [h2.frozen (p := ⟨k, 0, none⟩) (by simp)]; exact hf0
  have g1 : w'.frozen? ⟨k, 1, none⟩ = false := by rw [h2.frozen (p := ⟨k, 1, none⟩) (by simp)]; exact hf1
  refine ⟨⟨(hbl.trans (h2.mono (by omega))).setCell (p := ⟨k, 1, none⟩) (by simp) _, ?_, ?_, World.cell?_setCell_same _ _ _ k1, ?_, ?_, ?_⟩, k1, g1⟩
  · have := h2.size; simp; omega
  · rw [World.cell?_setCell_other _ _ _ _ (by intro e; cases e)]; exact k0
  · simp [go_sem, g0]
  · simp [go_sem, g1]
  · rw [vs_snoc, List.length_append]
    exact hown'.kept (grown_set _ ⟨k, 1, none⟩ _) (by
      have := hown'.lt
      cases e : v'.ownBlock with
      | none => exact .inl rfl
      | some j => exact .inr (fun h => by cases h; have h3 : k + 1 ≤ k := (this _ e).1; omega))
theorem sum_step {A B ds : List Nat} {c T : Nat} (h : vl ds + 10 ^ ds.length * (c + vl (A.drop ds.length) + vl (B.drop ds.length)) = T) :
    vl (ds ++ [(at0 A ds.length + at0 B ds.length + c) % 10]) + 10 ^ (ds ++ [(at0 A ds.length + at0 B ds.length + c) % 10]).length * ((at0 A ds.length + at0 B ds.length + c) / 10 + vl (A.drop (ds.length + 1)) + vl (B.drop (ds.length + 1))) = T := by
  rw [vl_snoc, List.length_append, List.length_singleton, Nat.pow_succ, ← h, vl_drop A ds.length, vl_drop B ds.length]
  generalize at0 A ds.length = x
  generalize at0 B ds.length = y
  generalize vl (A.drop (ds.length + 1)) = X
  generalize vl (B.drop (ds.length + 1)) = Y
  rw [Nat.add_assoc, Nat.mul_assoc, ← Nat.mul_add]
  congr 2
  omega

set_option maxHeartbeats 1000000 in
theorem add_same (x y : Int) (va vb : Value) (w : World) (ha : Digs w va (dg x.natAbs)) (hb : Digs w vb (dg y.natAbs)) (hs : decide (x < 0) = decide (y < 0)) (hx : (dg x.natAbs).length ≤ 1000) (hy : (dg y.natAbs).length ≤ 1000) :
    Calls Tryd.prog 47 #[.agg #[.bool (decide (x < 0)), va], .agg #[.bool (decide (y < 0)), vb]] w (SomeNum (x + y) w []) := by
  obtain ⟨i0, hi, hz0, hz1, hz2⟩ := info_parts info5
  obtain ⟨p1, q1, rfl⟩ := ha.head
  obtain ⟨p2, q2, rfl⟩ := hb.head
  rw [← hs]
  have HA := Lib.hid ha; clear ha
  have HB := Lib.hid hb; clear hb
  have HS := Lib.hid hs; clear hs
  generalize hA : dg x.natAbs = A at *
  generalize hB : dg y.natAbs = B at *
  have H1 := Lib.hid hA; clear hA
  have H2 := Lib.hid hB; clear hB
  generalize hneg : decide (x < 0) = neg at *
  have HN := Lib.hid hneg; clear hneg
  go_enter Tryd.func47, Tryd.ntmps47
  go_wp2_with fail
  go_loopw [6, 7] (fun c i wr => ∃ (cn : Nat) (ds : List Nat) (v : Value), c = .int .i64 cn ∧ i = .int .i64 ds.length ∧ cn ≤ 1 ∧ cn + ds.length ≤ 1001 ∧ Hid ((∀ d ∈ ds, d ≤ 9) ∧ vl ds + 10 ^ ds.length * (cn + vl (A.drop ds.length) + vl (B.drop ds.length)) = x.natAbs + y.natAbs) ∧ SumRel (w.heap.size + 1 + 1 + 1) neg (((w.alloc (.cells #[.bool neg, .slice p1 A.length q1] NT)).alloc (.cells #[.bool neg, .slice p2 B.length q2] NT)).alloc (.cells #[.bool false, .slice none 0 0] NT)) ds v wr) (fun c i _ => 2000 - (intOf i).toNat)
  case atStart => exact ⟨0, [], .slice none 0 0, rfl, rfl, by omega, by simp, Lib.hid ⟨by simp, by rw [← H1.out, ← H2.out]; simp [vl, vl_dg]⟩, ⟨(Below.refl _ _).alloc (by simp) _, by simp, by simp [go_sem], by simp [go_sem], by simp [go_sem], by simp [go_sem], World.ownsRow_nil _ _ _ _⟩⟩
  case round =>
    obtain ⟨cn, ds, v, rfl, rfl, hc, hl, hv, R⟩ := hrel
    have hbl := R.below
    have hA1 : wr.cell? ⟨w.heap.size, 1, none⟩ = some (.slice p1 A.length q1) := by rw [hbl.cell (p := ⟨w.heap.size, 1, none⟩) (show w.heap.size < w.heap.size + 1 + 1 + 1 by omega)]; simp [go_sem]
    have hB1 : wr.cell? ⟨w.heap.size + 1, 1, none⟩ = some (.slice p2 B.length q2) := by rw [hbl.cell (p := ⟨w.heap.size + 1, 1, none⟩) (show w.heap.size + 1 < w.heap.size + 1 + 1 + 1 by omega)]; simp [go_sem]
    have hc1 := R.c1
    by_cases hcond : ds.length < A.length ∨ ds.length < B.length ∨ 0 < cn
    · have dA : Digs wr (.slice p1 A.length q1) A := HA.out.below ((below3 w _ _ _).trans (hbl.mono (by omega)))
      have dB : Digs wr (.slice p2 B.length q2) B := HB.out.below ((below3 w _ _ _).trans (hbl.mono (by omega)))
      have a9 : ∀ d ∈ A, d ≤ 9 := by rw [← H1.out]; exact dg_le _
      have b9 : ∀ d ∈ B, d ≤ 9 := by rw [← H2.out]; exact dg_le _
      have kA := at0_le A a9 ds.length
      have kB := at0_le B b9 ds.length
      have cA := fun nq => digit_q (.slice p1 A.length q1) A ds.length (wr.drewN nq) (dA.below (below_drewN (Below.refl _ _) nq)) (by omega) a9
      have cB := fun nq => digit_q (.slice p2 B.length q2) B ds.length (wr.drewN nq) (dB.below (below_drewN (Below.refl _ _) nq)) (by omega) b9
      have CA := Lib.hid cA; clear cA
      have CB := Lib.hid cB; clear cB
      have DA := Lib.hid dA; clear dA
      have DB := Lib.hid dB; clear dB
      clear a9 b9
      have RR := Lib.hid R; clear R
      have zA : ds.length < A.length ∨ at0 A ds.length = 0 := by
        by_cases h : ds.length < A.length
        · exact .inl h
        · exact .inr (at0_behind (by omega))
      have zB : ds.length < B.length ∨ at0 B ds.length = 0 := by
        by_cases h : ds.length < B.length
        · exact .inl h
        · exact .inr (at0_behind (by omega))
      generalize hda : at0 A ds.length = da at *
      generalize hdb : at0 B ds.length = db at *
      have HDA := Lib.hid hda; clear hda
      have ZA := Lib.hid zA; clear zA
      have ZB := Lib.hid zB; clear zB
      have HDB := Lib.hid hdb; clear hdb
      have e1 : ((da : Int) + (db : Int) + (cn : Int)) % 10 = (((da + db + cn) % 10 : Nat) : Int) := by omega
      have E1 := Lib.hid e1; clear e1
      have e2 : ((da : Int) + (db : Int) + (cn : Int)) / 10 = (((da + db + cn) / 10 : Nat) : Int) := by omega
      have E2 := Lib.hid e2; clear e2
      have ht : (ds.length < A.length) ∨ (¬ ds.length < A.length ∧ ds.length < B.length) ∨ (¬ ds.length < A.length ∧ ¬ ds.length < B.length ∧ 0 < cn) := by omega
      clear hcond
      have ws0 : 0 ≤ (da : Int) + (db : Int) + (cn : Int) := by omega
      have ws1 : IntKind.i64.wrap ((da : Int) + (db : Int)) = (da : Int) + (db : Int) := IntWalk.i64_in _ (by omega)
      have ws2 : IntKind.i64.wrap ((da : Int) + (db : Int) + (cn : Int)) = (da : Int) + (db : Int) + (cn : Int) := IntWalk.i64_in _ (by omega)
      have RO : ∀ nq, (wr.drewN nq).ownsRow (w.heap.size + 1 + 1 + 1 + 1) 5 1 v ds.length (vs ds) := fun nq => RR.out.own
      have RO := Lib.hid RO
      rcases ht with t1 | ⟨t1, t2⟩ | ⟨t1, t2, t3⟩
      all_goals
        go_wp2_with fail
        go_quiet ((first | (go_at_call 66; with_reducible exact Calls.quiet_of_same (CA.out _)) | (go_at_call 66; with_reducible exact Calls.quiet_of_same (CB.out _))))
        clear ws1 ws2
        go_wp2_with (at_builtin; refine wpList_append_own _ rfl (.tmp 51) (.tmp 55) 55 rfl (w.heap.size + 1 + 1 + 1 + 1) 5 i0 (.int .u8 0) 1 1 Tryd.underlying55 hi hz0 hz1 hz2 rfl (by decide) v ds.length (vs ds) rfl ((RO.out _).alloc _) ⟨wr.heap.size, 0, none⟩ 1 1 [.int .u8 (((da : Int) + (db : Int) + (cn : Int)) % 10)] rfl rfl (one_newN _ _ _ _) (by intro u hu; simp at hu; subst hu; rfl) (by unfold maxLen; omega) (by omega) (size_newN _ _ _ _ RR.out.size) ?_)
        intro v' w' hown' hgrow _
        obtain ⟨a', cap', rfl⟩ := own_shape hown'
        rw [E1.out] at hown'
        obtain ⟨hR, k1, kf1⟩ := RR.out.round ((below_drewN (Below.refl _ _) _).alloc (by simp) _) hgrow _ hown'
        have HR := Lib.hid hR; clear hR
        clear hown' hgrow
        go_wp2_with fail
        go_roundw
        case rel => exact ⟨(da + db + cn) / 10, ds ++ [(da + db + cn) % 10], _, by rw [E2.out], by simp, by omega, by have := ZA.out; have := ZB.out; simp; omega, Lib.hid ⟨by
            intro d hd
            rcases List.mem_append.1 hd with h | h
            · exact hv.out.1 d h
            · simp at h; omega, by
            have := sum_step (A := A) (B := B) hv.out.2
            rw [HDA.out, HDB.out] at this
            rw [List.length_append, List.length_singleton] at this ⊢
            exact this⟩, HR.out⟩
        case measure => simp [intOf]; omega
    · have hz : cn = 0 := by omega
      subst hz
      obtain ⟨a, cap, rfl, hD, hf⟩ := own_digs R.own (by omega)
      have hval : nv neg ds = x + y := by
        have h := hv.out.2
        rw [List.drop_eq_nil_of_le (by omega), List.drop_eq_nil_of_le (by omega)] at h
        have h2 : vl ds = x.natAbs + y.natAbs := by simpa [vl] using h
        have hn := HN.out
        have hs := HS.out
        unfold nv
        rw [h2]
        cases neg with
        | true =>
          have g1 : x < 0 := of_decide_eq_true hn
          have g2 : y < 0 := of_decide_eq_true hs.symm
          simp; omega
        | false =>
          have g1 : ¬ x < 0 := of_decide_eq_false hn
          have g2 : ¬ y < 0 := of_decide_eq_false hs.symm
          simp; omega
      have r0 : wr.cell? ⟨w.heap.size + 1 + 1, 0, none⟩ = some (.bool false) := by rw [hbl.cell (p := ⟨w.heap.size + 1 + 1, 0, none⟩) (show w.heap.size + 1 + 1 < w.heap.size + 1 + 1 + 1 by omega)]; simp [go_sem]
      have r1 : wr.cell? ⟨w.heap.size + 1 + 1, 1, none⟩ = some (.slice none 0 0) := by rw [hbl.cell (p := ⟨w.heap.size + 1 + 1, 1, none⟩) (show w.heap.size + 1 + 1 < w.heap.size + 1 + 1 + 1 by omega)]; simp [go_sem]
      have g0 : wr.frozen? ⟨w.heap.size + 1 + 1, 0, none⟩ = false := by rw [hbl.frozen (p := ⟨w.heap.size + 1 + 1, 0, none⟩) (show w.heap.size + 1 + 1 < w.heap.size + 1 + 1 + 1 by omega)]; simp [go_sem]
      have g1 : wr.frozen? ⟨w.heap.size + 1 + 1, 1, none⟩ = false := by rw [hbl.frozen (p := ⟨w.heap.size + 1 + 1, 1, none⟩) (show w.heap.size + 1 + 1 < w.heap.size + 1 + 1 + 1 by omega)]; simp [go_sem]
      have hsz := R.size
      have HB2 := Lib.hid ((below3 w _ _ _).trans (hbl.mono (show w.heap.size ≤ w.heap.size + 1 + 1 + 1 by omega)))
      have ct := fun (w1 : World) (h : Digs w1 (.slice a ds.length cap) ds) => ref_trim neg _ ds w1 h hv.out.1
      rw [hval] at ct
      have CT := Lib.hid ct; clear ct
      have HD := Lib.hid hD; clear hD
      have HF := Lib.hid hf; clear hf
      have hc0 := R.c0
      clear R hval hbl
      have t1 : ¬ ds.length < A.length := by omega
      have t2 : ¬ ds.length < B.length := by omega
      clear hcond
      go_wp2_with fail
      refine (CT.out _ HD.out).mono ?_
      rintro e w1 ⟨⟨a1, cap1, rfl, hd1, hf1⟩, hb1⟩
      have D1 := Lib.hid hd1; clear hd1
      have c0 : w1.cell? ⟨w.heap.size + 1 + 1, 0, none⟩ = some (.bool false) := by rw [hb1.cell (p := ⟨w.heap.size + 1 + 1, 0, none⟩) (show w.heap.size + 1 + 1 < wr.heap.size by omega)]; exact r0
      have c1 : w1.cell? ⟨w.heap.size + 1 + 1, 1, none⟩ = some (.slice none 0 0) := by rw [hb1.cell (p := ⟨w.heap.size + 1 + 1, 1, none⟩) (show w.heap.size + 1 + 1 < wr.heap.size by omega)]; exact r1
      have f0 : w1.frozen? ⟨w.heap.size + 1 + 1, 0, none⟩ = false := by rw [hb1.frozen (p := ⟨w.heap.size + 1 + 1, 0, none⟩) (show w.heap.size + 1 + 1 < wr.heap.size by omega)]; exact g0
      have f1 : w1.frozen? ⟨w.heap.size + 1 + 1, 1, none⟩ = false := by rw [hb1.frozen (p := ⟨w.heap.size + 1 + 1, 1, none⟩) (show w.heap.size + 1 + 1 < wr.heap.size by omega)]; exact g1
      have hb0 := HB2.out.trans (hb1.mono (by omega))
      clear hb1 r0 r1 g0 g1
      have HF1 := Lib.hid hf1; clear hf1
      go_wp2_with fail
      refine bodyPost_ret (v := .agg #[.bool (decide (x + y < 0)), .slice a1 (dg (x + y).natAbs).length cap1]) (by simp [results, Tryd.results47, go_sem, c0, c1]) rfl ?_
      exact SomeNum.stored rfl hb0 (by omega) D1.out (fun p hp => .inl (by
        rcases HF1.out p hp with h | h
        · omega
        · cases a with
          | none => simp [sb] at h
          | some q => simp [sb] at h; have := HF.out q rfl; omega)) (fun _ h => by cases h)
end Go.Proofs.YtbnlomjlapnoaaaDoor.R1
