/-
  DERIVED. CONTRACT of the reference's Mul.
-/
import Derived.Test.YtadnehnhgnfclaaDoorRefAdd
import Derived.Test.YtadnehnhgnfclaaDoorMulMath
import Derived.Deep.OwnRows
import Derived.Deep.RegionLaw
import Derived.Deep.RegionHeld
import Derived.Deep.Cut
import Derived.Deep.CutRange
import Derived.BigQuiet
import Derived.WalkSpells
namespace Go.Proofs.YtadnehnhgnfclaaDoor
open Go.RowKit Go.Deep

theorem info5b : (Tryd.prog.info? 5).map (fun i => (i.zero, i.size, i.bytes)) = some (some (.int .u8 0), 1, 1) := by kernel_rfl
abbrev rowOf (L : List Nat) : Nat → Value := fun j => .int .u8 (at0 L j)
/-- what the loops of a product leave: the row of digits in block M, the number's own block K; the blocks below b as they were -/
structure MulW (b M K n : Nat) (neg : Bool) (w0 : World) (L : List Nat) (wr : World) : Prop where
  below : Below b w0 wr
  hM : b ≤ M
  hK : b ≤ K
  ne : ¬ M = K
  ltK : K < wr.heap.size
  len : L.length = n
  row : wr.rowIs M 5 n (rowOf L)
  c0 : wr.cell? ⟨K, 0, none⟩ = some (.bool neg)
  c1 : wr.cell? ⟨K, 1, none⟩ = some (.slice (some ⟨M, 0, none⟩) n n)
theorem MulW.store {b M K n : Nat} {neg : Bool} {w0 wr : World} {L : List Nat} (h : MulW b M K n neg w0 L wr) (nq j d : Nat) (hj : j < n) :
    MulW b M K n neg w0 (L.set j d) ((wr.drewN nq).setCell ⟨M, j, none⟩ (.int .u8 d)) := by
  obtain ⟨h1, h2, h3, h4, h5, h6, h7, h8, h9⟩ := h
  have r : (wr.drewN nq).rowIs M 5 n (rowOf L) := h7
  have k0 : (wr.drewN nq).cell? ⟨K, 0, none⟩ = some (.bool neg) := h8
  have k1 : (wr.drewN nq).cell? ⟨K, 1, none⟩ = some (.slice (some ⟨M, 0, none⟩) n n) := h9
  refine ⟨(below_drewN h1 nq).setCell (p := ⟨M, j, none⟩) h2 _, h2, h3, h4, by simpa using h5, by rw [List.length_set]; exact h6, (r.set j _).congr ?_, ?_, ?_⟩
  · intro i _
    show (if i = j then Value.int .u8 d else .int .u8 (at0 L i)) = .int .u8 (at0 (L.set j d) i)
    rw [at0_set _ _ _ _ (by omega)]
    by_cases e : i = j
    · rw [if_pos e, if_pos e]
    · rw [if_neg e, if_neg e]
  · rw [World.cell?_setCell_other _ _ _ _ (by intro e; injection e with e1; exact h4 e1)]; exact k0
  · rw [World.cell?_setCell_other _ _ _ _ (by intro e; injection e with e1; exact h4 e1)]; exact k1
theorem at0_rep (n i : Nat) : at0 (List.replicate n 0) i = 0 := by
  unfold at0
  rw [List.getD_eq_getElem?_getD, List.getElem?_replicate]
  split <;> rfl
theorem MulW.start1 (w3 : World) (b n : Nat) (neg : Bool) (hb : w3.heap.size = b) :
    MulW b b (b + 1) n neg w3 (List.replicate n 0) (((w3.alloc (.cells (madeCells #[.int .u8 0] n) 5)).alloc (.cells #[.bool neg, .slice (some ⟨b, 0, none⟩) n n] NT)).drew) := by
  subst hb
  refine ⟨(((Below.refl _ _).alloc (Nat.le_refl _) _).alloc (by simp) _).drew, Nat.le_refl _, by omega, by omega, by simp, by simp, ?_, by simp [go_sem], by simp [go_sem]⟩
  exact (((World.rowIs_made w3 (.int .u8 0) n 5).alloc _).drew).congr (fun i _ => by show _ = Value.int .u8 (at0 (List.replicate n 0) i); rw [at0_rep]; rfl)
theorem MulW.start2 (w3 : World) (b n : Nat) (neg : Bool) (hb : w3.heap.size = b) :
    MulW b (b + 1) b n neg w3 (List.replicate n 0) (((w3.alloc (.cells #[.bool neg, .slice (some ⟨b + 1, 0, none⟩) n n] NT)).alloc (.cells (madeCells #[.int .u8 0] n) 5)).drew) := by
  subst hb
  have hr := World.rowIs_made (w3.alloc (.cells #[.bool neg, .slice (some ⟨w3.heap.size + 1, 0, none⟩) n n] NT)) (.int .u8 0) n 5
  rw [show (w3.alloc (.cells #[.bool neg, .slice (some ⟨w3.heap.size + 1, 0, none⟩) n n] NT)).heap.size = w3.heap.size + 1 by simp] at hr
  refine ⟨(((Below.refl _ _).alloc (Nat.le_refl _) _).alloc (by simp) _).drew, by omega, Nat.le_refl _, by omega, by simp; omega, by simp, ?_, by simp [go_sem], by simp [go_sem]⟩
  exact hr.drew.congr (fun i _ => by show _ = Value.int .u8 (at0 (List.replicate n 0) i); rw [at0_rep]; rfl)

set_option maxRecDepth 100000 in
set_option maxHeartbeats 4000000 in
theorem mul_any (x y : Int) (va vb : Value) (w : World) (ha : Digs w va (dg x.natAbs)) (hb : Digs w vb (dg y.natAbs)) (hx : (dg x.natAbs).length ≤ 1000) (hy : (dg y.natAbs).length ≤ 1000) :
    Calls Tryd.prog 16 #[.agg #[.bool (decide (x < 0)), va], .agg #[.bool (decide (y < 0)), vb]] w (SomeNum (x * y) w []) := by
  obtain ⟨p1, q1, rfl⟩ := ha.head
  obtain ⟨p2, q2, rfl⟩ := hb.head
  have HA := Lib.hid ha; clear ha
  have HB := Lib.hid hb; clear hb
  have a9 := dg_le x.natAbs
  have b9 := dg_le y.natAbs
  have hval : ∀ L, vl L = vl (dg x.natAbs) * vl (dg y.natAbs) → nv (!decide (x < 0) == decide (y < 0)) L = x * y := by
    intro L h
    rw [vl_dg, vl_dg] at h
    unfold nv
    rw [h]
    obtain ⟨a, ha⟩ : ∃ a : Nat, a = x.natAbs := ⟨_, rfl⟩
    obtain ⟨b, hb⟩ : ∃ b : Nat, b = y.natAbs := ⟨_, rfl⟩
    rw [← ha, ← hb]
    by_cases hx0 : x < 0 <;> by_cases hy0 : y < 0
    · obtain rfl : x = -(a : Int) := by omega
      obtain rfl : y = -(b : Int) := by omega
      rw [decide_eq_true hx0, decide_eq_true hy0, Int.neg_mul_neg]
      push_cast; rfl
    · obtain rfl : x = -(a : Int) := by omega
      obtain rfl : y = (b : Int) := by omega
      rw [decide_eq_true hx0, decide_eq_false hy0, Int.neg_mul]
      push_cast; rfl
    · obtain rfl : x = (a : Int) := by omega
      obtain rfl : y = -(b : Int) := by omega
      rw [decide_eq_false hx0, decide_eq_true hy0, Int.mul_neg]
      push_cast; rfl
    · obtain rfl : x = (a : Int) := by omega
      obtain rfl : y = (b : Int) := by omega
      rw [decide_eq_false hx0, decide_eq_false hy0]
      push_cast; rfl
  generalize hA : dg x.natAbs = A at *
  generalize hB : dg y.natAbs = B at *
  clear hA hB
  generalize hn1 : decide (x < 0) = n1 at *
  generalize hn2 : decide (y < 0) = n2 at *
  clear hn1 hn2
  have HV := Lib.hid hval; clear hval
  have A9 := Lib.hid a9; clear a9
  have B9 := Lib.hid b9; clear b9
  have hmk := run_make_row' (P := Tryd.prog) 22 5 (.int .u8 0) 1 Tryd.underlying22 info5b rfl .i64 .i64 (A.length + B.length + 1) (by omega) (by omega)
  rw [show ((A.length + B.length + 1 : Nat) : Int) = (A.length : Int) + (B.length : Int) + 1 from by omega] at hmk
  go_enter Tryd.func16, Tryd.ntmps16
  go_upto_region 1 with fail
  go_cut [5] from 10 to 24 (fun p wx => ∃ M K, p = .pointer (some ⟨K, 0, none⟩) ∧ MulW (w.heap.size + 1 + 1 + 1) M K (A.length + B.length + 1) (!n1 == n2) (((w.alloc (.cells #[.bool n1, .slice p1 A.length q1] NT)).alloc (.cells #[.bool n2, .slice p2 B.length q2] NT)).alloc (.cells #[.bool false, .slice none 0 0] NT)) (List.replicate (A.length + B.length + 1) 0) wx)
  case first =>
    go_region
    all_goals (go_wp2_with fail; go_meet)
    all_goals (first | exact ⟨_, _, rfl, MulW.start1 _ _ _ _ (by simp)⟩ | exact ⟨_, _, rfl, MulW.start2 _ _ _ _ (by simp)⟩)
  case rest =>
    obtain ⟨M, K, rfl, hW⟩ := hcut
    clear hmk
    go_wp2_with fail
    go_loopw [6] (fun i wr => ∃ (k : Nat) (L : List Nat), i = .int .i64 k ∧ k ≤ A.length ∧ Hid (MulOut A B k L) ∧ Hid (MulW (w.heap.size + 1 + 1 + 1) M K (A.length + B.length + 1) (!n1 == n2) (((w.alloc (.cells #[.bool n1, .slice p1 A.length q1] NT)).alloc (.cells #[.bool n2, .slice p2 B.length q2] NT)).alloc (.cells #[.bool false, .slice none 0 0] NT)) L wr)) (fun i _ => A.length - (intOf i).toNat)
    case atStart => exact ⟨0, _, rfl, by omega, Lib.hid (MulOut.start A B), Lib.hid hW⟩
    case round =>
      obtain ⟨i, L, rfl, hi0, HO, HW⟩ := hrel
      have hbl := HW.out.below
      have hA1 : wr.cell? ⟨w.heap.size, 1, none⟩ = some (.slice p1 A.length q1) := by rw [hbl.cell (p := ⟨w.heap.size, 1, none⟩) (show w.heap.size < w.heap.size + 1 + 1 + 1 by omega)]; simp [go_sem]
      by_cases hi : i < A.length
      · obtain ⟨ba, hp, hba, hac⟩ : ∃ ba, p1 = some ⟨ba, 0, none⟩ ∧ ba < w.heap.size ∧ ∀ j, j < A.length → w.cell? ⟨ba, j, none⟩ = some (.int .u8 (at0 A j)) := by
          rcases HA.out with ⟨_, e⟩ | ⟨b, c, e, g1, _, _, _, g6⟩
          · rw [e] at hi; simp at hi
          · simp only [Value.slice.injEq, true_and] at e; exact ⟨b, e.1, g1, g6⟩
        have HAC := Lib.hid hac; clear hac
        have HP := Lib.hid hp; clear hp
        clear hbl
        go_wp2_with fail
        clear hA1
        go_loopw [7, 8] (fun c k wr => ∃ (cn kn : Nat) (L2 : List Nat), c = .int .i64 cn ∧ k = .int .i64 kn ∧ cn ≤ 9 ∧ kn ≤ B.length + 1 ∧ Hid (MulIn A B L i kn cn L2) ∧ Hid (MulW (w.heap.size + 1 + 1 + 1) M K (A.length + B.length + 1) (!n1 == n2) (((w.alloc (.cells #[.bool n1, .slice p1 A.length q1] NT)).alloc (.cells #[.bool n2, .slice p2 B.length q2] NT)).alloc (.cells #[.bool false, .slice none 0 0] NT)) L2 wr)) (fun _ k _ => B.length + 2 - (intOf k).toNat)
        case atStart => exact ⟨0, 0, L, rfl, rfl, by omega, by omega, Lib.hid HO.out.inner, HW⟩
        case round =>
          obtain ⟨c, k, L2, rfl, rfl, hc9, hk1, HI, HW2⟩ := hrel
          have hbl2 := HW2.out.below
          have hA2 : wr.cell? ⟨w.heap.size, 1, none⟩ = some (.slice (some ⟨ba, 0, none⟩) A.length q1) := by rw [hbl2.cell (p := ⟨w.heap.size, 1, none⟩) (show w.heap.size < w.heap.size + 1 + 1 + 1 by omega), ← HP.out]; simp [go_sem]
          have hB2 : wr.cell? ⟨w.heap.size + 1, 1, none⟩ = some (.slice p2 B.length q2) := by rw [hbl2.cell (p := ⟨w.heap.size + 1, 1, none⟩) (show w.heap.size + 1 < w.heap.size + 1 + 1 + 1 by omega)]; simp [go_sem]
          have hc1 := HW2.out.c1
          by_cases hcond : k < B.length ∨ 0 < c
          · obtain ⟨s1, s2, s3, s4⟩ := HI.out.sum HO.out A9.out B9.out hi hcond
            have HST := Lib.hid (HI.out.step HO.out A9.out B9.out hi hcond)
            have HST2 := Lib.hid (fun nq => HW2.out.store nq (i + k) ((at0 L2 (i + k) + at0 A i * at0 B k + c) % 10) (by omega))
            have ar : wr.cell? ⟨ba, i, none⟩ = some (.int .u8 (at0 A i)) := by rw [((below3 w _ _ _).trans (hbl2.mono (by omega))).cell (p := ⟨ba, i, none⟩) hba]; exact HAC.out i hi
            have rr : wr.cell? ⟨M, i + k, none⟩ = some (.int .u8 (at0 L2 (i + k))) := HW2.out.row.cell (by omega)
            have fr : wr.frozen? ⟨M, i + k, none⟩ = false := HW2.out.row.frozen _
            have dB : Digs wr (.slice p2 B.length q2) B := HB.out.below ((below3 w _ _ _).trans (hbl2.mono (by omega)))
            have CB := Lib.hid (fun nq => digit_q (.slice p2 B.length q2) B k (wr.drewN nq) (dB.below (below_drewN (Below.refl _ _) nq)) (by omega) B9.out)
            have m1 := at0_le A A9.out i
            have m2 := at0_le B B9.out k
            have m3 := at0_le L2 HI.out.nine (i + k)
            clear dB s4 hbl2
            generalize at0 A i = a at *
            generalize at0 B k = d at *
            generalize at0 L2 (i + k) = y0 at *
            have hm0 : 0 ≤ (a : Int) * (d : Int) := Int.mul_nonneg (by omega) (by omega)
            have hm1 : (y0 : Int) + (a : Int) * (d : Int) + (c : Int) ≤ 99 := by exact_mod_cast s3
            have E1 := Lib.hid (show ((y0 : Int) + (a : Int) * (d : Int) + (c : Int)) % 10 = (((y0 + a * d + c) % 10 : Nat) : Int) by push_cast; rfl)
            have E2 := Lib.hid (show ((y0 : Int) + (a : Int) * (d : Int) + (c : Int)) / 10 = (((y0 + a * d + c) / 10 : Nat) : Int) by push_cast; rfl)
            clear s3
            have ws1 : IntKind.i64.wrap ((a : Int) * (d : Int)) = (a : Int) * (d : Int) := IntWalk.i64_in _ (by omega)
            have ws2 : IntKind.i64.wrap ((y0 : Int) + (a : Int) * (d : Int)) = (y0 : Int) + (a : Int) * (d : Int) := IntWalk.i64_in _ (by omega)
            have ws3 : IntKind.i64.wrap ((y0 : Int) + (a : Int) * (d : Int) + (c : Int)) = (y0 : Int) + (a : Int) * (d : Int) + (c : Int) := IntWalk.i64_in _ (by omega)
            have ws0 : 0 ≤ (y0 : Int) + (a : Int) * (d : Int) + (c : Int) := by omega
            have hidx : ((i : Int) + (k : Int)).toNat = i + k := by omega
            have ht : k < B.length ∨ (¬ k < B.length ∧ 0 < c) := by omega
            clear hcond
            rcases ht with t1 | ⟨t1, t2⟩
            all_goals
              go_wp2_with fail
              go_quiet ((go_at_call 35; with_reducible exact Calls.quiet_of_same (CB.out _)))
              clear ws1 ws2 ws3
              go_wp2_with fail
              go_roundw
              case rel => exact ⟨(y0 + a * d + c) / 10, k + 1, _, by rw [E2.out], by simp, by omega, by omega, HST, by rw [E1.out]; exact Lib.hid (HST2.out _)⟩
              case measure => simp [intOf]; omega
          · have hc0 : c = 0 := by omega
            subst hc0
            have t1 : ¬ k < B.length := by omega
            clear hcond
            go_wp2_with fail
            go_roundw
            case rel => exact ⟨i + 1, L2, by simp, by omega, Lib.hid (HI.out.done HO.out hi (by omega)), HW2⟩
            case measure => simp [intOf]; omega
      · have hiA : i = A.length := by omega
        subst hiA
        have hval := HV.out L HO.out.done
        have hlen := HW.out.len
        have hlK := HW.out.ltK
        have hhK := HW.out.hK
        have hhM := HW.out.hM
        have hD : Digs wr (.slice (some ⟨M, 0, none⟩) (A.length + B.length + 1) (A.length + B.length + 1)) L := .inr ⟨M, A.length + B.length + 1, by rw [hlen], HW.out.row.lt, by omega, by omega, by unfold maxLen; omega, fun j hj => HW.out.row.cell (by omega)⟩
        have r0 : wr.cell? ⟨w.heap.size + 1 + 1, 0, none⟩ = some (.bool false) := by rw [hbl.cell (p := ⟨w.heap.size + 1 + 1, 0, none⟩) (show w.heap.size + 1 + 1 < w.heap.size + 1 + 1 + 1 by omega)]; simp [go_sem]
        have r1 : wr.cell? ⟨w.heap.size + 1 + 1, 1, none⟩ = some (.slice none 0 0) := by rw [hbl.cell (p := ⟨w.heap.size + 1 + 1, 1, none⟩) (show w.heap.size + 1 + 1 < w.heap.size + 1 + 1 + 1 by omega)]; simp [go_sem]
        have g0 : wr.frozen? ⟨w.heap.size + 1 + 1, 0, none⟩ = false := by rw [hbl.frozen (p := ⟨w.heap.size + 1 + 1, 0, none⟩) (show w.heap.size + 1 + 1 < w.heap.size + 1 + 1 + 1 by omega)]; simp [go_sem]
        have g1 : wr.frozen? ⟨w.heap.size + 1 + 1, 1, none⟩ = false := by rw [hbl.frozen (p := ⟨w.heap.size + 1 + 1, 1, none⟩) (show w.heap.size + 1 + 1 < w.heap.size + 1 + 1 + 1 by omega)]; simp [go_sem]
        have HB2 := Lib.hid ((below3 w _ _ _).trans (hbl.mono (show w.heap.size ≤ w.heap.size + 1 + 1 + 1 by omega)))
        have ct := fun (w1 : World) (h : Digs w1 (.slice (some ⟨M, 0, none⟩) (A.length + B.length + 1) (A.length + B.length + 1)) L) => ref_trim (!n1 == n2) _ L w1 h HO.out.nine
        rw [hval] at ct
        have CT := Lib.hid ct; clear ct
        have HD := Lib.hid hD; clear hD
        have hc0 := HW.out.c0
        have hc1 := HW.out.c1
        clear hval hbl
        go_wp2_with fail
        refine (CT.out _ HD.out).mono ?_
        rintro e w1 ⟨⟨a1, cap1, rfl, hd1, hf1⟩, hb1⟩
        have D1 := Lib.hid hd1; clear hd1
        have c0 : w1.cell? ⟨w.heap.size + 1 + 1, 0, none⟩ = some (.bool false) := by rw [hb1.cell (p := ⟨w.heap.size + 1 + 1, 0, none⟩) (show w.heap.size + 1 + 1 < wr.heap.size by omega)]; exact r0
        have c1 : w1.cell? ⟨w.heap.size + 1 + 1, 1, none⟩ = some (.slice none 0 0) := by rw [hb1.cell (p := ⟨w.heap.size + 1 + 1, 1, none⟩) (show w.heap.size + 1 + 1 < wr.heap.size by omega)]; exact r1
        have f0 : w1.frozen? ⟨w.heap.size + 1 + 1, 0, none⟩ = false := by rw [hb1.frozen (p := ⟨w.heap.size + 1 + 1, 0, none⟩) (show w.heap.size + 1 + 1 < wr.heap.size by omega)]; exact g0
        have f1 : w1.frozen? ⟨w.heap.size + 1 + 1, 1, none⟩ = false := by rw [hb1.frozen (p := ⟨w.heap.size + 1 + 1, 1, none⟩) (show w.heap.size + 1 + 1 < wr.heap.size by omega)]; exact g1
        have hb0 := HB2.out.trans (hb1.mono (by omega))
        clear hb1 r0 r1 g0 g1
        have HF1 := Lib.hid hf1; clear hf1
        go_wp2_with fail
        refine bodyPost_ret (v := .agg #[.bool (decide (x * y < 0)), .slice a1 (dg (x * y).natAbs).length cap1]) (by simp [results, Tryd.results16, go_sem, c0, c1]) rfl ?_
        exact SomeNum.stored rfl hb0 (by omega) D1.out (fun p hp => .inl (by
          rcases HF1.out p hp with h | h
          · omega
          · simp [sb] at h; omega)) (fun _ h => by cases h)
end Go.Proofs.YtadnehnhgnfclaaDoor
