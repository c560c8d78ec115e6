/-
  DERIVED. CONTRACT of the reference of layer 6 (civils): Text. Written by mkcvrefx.py.
-/
import Derived.Test.YtoafigehcgledaaGreatDoorPCo
namespace Go.Proofs.YtoafigehcgledaaGreatDoor
open Go.RowKit

def lenOf : Value → Nat
  | .string b => b.size
  | _ => 0
/-- a number's digits in their block, as every world of the walk has them -/
structure Nm (g : Nat) (neg : Bool) (v : Value) (n : Nat) (W : World) : Prop where
  size : g < W.heap.size
  c0 : W.cell? ⟨g, 0, none⟩ = some (.bool neg)
  c1 : W.cell? ⟨g, 1, none⟩ = some v
  ds : R1.Digs W v (dg n)
theorem Nm.step {g : Nat} {neg : Bool} {v : Value} {n : Nat} {W W' : World} (h : Nm g neg v n W) (hb : Below W.heap.size W W') : Nm g neg v n W' :=
  ⟨by have := hb.size; have := h.size; omega, by rw [hb.cell (p := ⟨g, 0, none⟩) h.size]; exact h.c0, by rw [hb.cell (p := ⟨g, 1, none⟩) h.size]; exact h.c1, h.ds.below hb⟩
theorem nm_new {neg : Bool} {v : Value} {n : Nat} {W : World} (t : TypeId) (hd : R1.Digs W v (dg n)) : Nm W.heap.size neg v n (W.alloc (.cells #[.bool neg, v] t)) :=
  ⟨by simp, by rw [World.cell?_alloc_new]; rfl, by rw [World.cell?_alloc_new]; rfl, hd.below ((Below.refl _ _).alloc (Nat.le_refl _) _)⟩
theorem dec_nat {n : Nat} {va : Value} (hn : n ≤ 10000000000000000) (w : World) (hd : R1.Digs w va (dg n)) :
    Calls Tryz.prog 55 #[.agg #[.bool false, va]] w fun e w' => e = .returned (.string (bs (Lib.decDigits n))) ∧ Below w.heap.size w w' := by
  have h := R1.ref_text (n : Int) va w (by simpa using hd) (by have := dg_length_le n 17 (by omega); simp; omega)
  rw [decide_eq_false (by omega)] at h
  have e : Lib.itoa (n : Int) = Lib.decDigits n := by unfold Lib.itoa; rw [if_neg (by omega)]; simp
  rw [e] at h
  exact h
set_option maxRecDepth 100000 in
set_option maxHeartbeats 2000000 in
theorem refCText_is {y m d : Int} (w : World) (h : Right y m d) :
    Calls Tryz.prog 29 #[.agg #[.int .i64 y, .int .i64 m, .int .i64 d]] w fun e w' => e = .returned (.string (bs (textC y m d))) ∧ Below w.heap.size w w' := by
  have hi := h.i64
  have HA := Kp.mk (cv_new y m d 23 (Below.refl w.heap.size w))
  have HB := Kp.mk HA.out.bl
  obtain ⟨n, hn⟩ : ∃ n, y.natAbs = n := ⟨_, rfl⟩
  have hnb : n ≤ 10000000000000000 := by omega
  have r1 := Kp.mk (fun w => R1.of_any y w (by omega) (by omega))
  unfold R1.SomeNum at r1
  rw [hn] at r1
  have r2 := Kp.mk (fun w va hd => dec_nat (va := va) hnb w hd)
  obtain ⟨L, hL⟩ : ∃ L, (Lib.decDigits n).length = L := ⟨_, rfl⟩
  have hLb : L ≤ 17 := by rw [← hL]; exact (dec_pad 16 n (by omega)).2
  obtain ⟨P, hP⟩ : ∃ P : Nat → ByteArray, P = fun j => bs (List.replicate j 48 ++ Lib.decDigits n) := ⟨_, rfl⟩
  have HP0 : Kp (bs (Lib.decDigits n) = P 0) := Kp.mk (by rw [hP]; rfl)
  have HPS : Kp (∀ j, (P j).size = j + L) := Kp.mk (fun j => by rw [hP]; simp only [bs_size, List.length_append, List.length_replicate, hL])
  have HPA : Kp (∀ j, j ≤ 4 → ∀ w, (Op.stringOp .add ⟨#[48]⟩ (P j)).run Tryz.prog w = .ok (.string (P (j + 1))) w) := Kp.mk (fun j hj w => by
    rw [hP]
    exact add_bs (a := [48]) (by simp only [List.length_append, List.length_replicate, List.length_singleton, hL]; omega) w)
  have hpad : P (4 - L) = bs (padY n) := by rw [hP]; unfold padY; rw [hL]
  have hpl : (padY n).length ≤ 17 := pad_len hnb
  obtain ⟨q, hq⟩ : ∃ q, (if y < 0 then [45] else ([] : List UInt8)) ++ padY n = q := ⟨_, rfl⟩
  have hql : q.length ≤ 18 := by rw [← hq, List.length_append]; split <;> simp <;> omega
  obtain ⟨t1, ht1⟩ : ∃ t, fx 2 m.toNat = t := ⟨_, rfl⟩
  obtain ⟨t2, ht2⟩ : ∃ t, fx 2 d.toNat = t := ⟨_, rfl⟩
  have l1 : t1.length = 2 := by rw [← ht1, fx_len]
  have l2 : t2.length = 2 := by rw [← ht2, fx_len]
  have htx : textC y m d = q ++ [45] ++ t1 ++ [45] ++ t2 := by unfold textC; rw [hn, hq, ht1, ht2]
  have r3 := Kp.mk (fun w => two_is (n := m) (by omega) (by omega) w)
  have r4 := Kp.mk (fun w => two_is (n := d) (by omega) (by omega) w)
  rw [ht1] at r3
  rw [ht2] at r4
  have a1 : ∀ w, (Op.stringOp .add (bs q) ⟨#[45]⟩).run Tryz.prog w = .ok (.string (bs (q ++ [45]))) w := fun w => add_bs (b := [45]) (by simp; omega) w
  have a2 : ∀ w, (Op.stringOp .add (bs (q ++ [45])) (bs t1)).run Tryz.prog w = .ok (.string (bs (q ++ [45] ++ t1))) w := fun w => add_bs (by simp; omega) w
  have a3 : ∀ w, (Op.stringOp .add (bs (q ++ [45] ++ t1)) ⟨#[45]⟩).run Tryz.prog w = .ok (.string (bs (q ++ [45] ++ t1 ++ [45]))) w := fun w => add_bs (b := [45]) (by simp; omega) w
  have a4 : ∀ w, (Op.stringOp .add (bs (q ++ [45] ++ t1 ++ [45])) (bs t2)).run Tryz.prog w = .ok (.string (bs (q ++ [45] ++ t1 ++ [45] ++ t2))) w := fun w => add_bs (by simp; omega) w
  have a0 : y < 0 → ∀ w, (Op.stringOp .add ⟨#[45]⟩ (P (4 - L))).run Tryz.prog w = .ok (.string (bs q)) w := fun hy w => by
    rw [hpad, ← hq, if_pos hy]
    exact add_bs (a := [45]) (by simp; omega) w
  have b0 : ¬ y < 0 → P (4 - L) = bs q := fun hy => by rw [hpad, ← hq, if_neg hy]; rfl
  rw [htx]
  generalize bs (q ++ [45] ++ t1 ++ [45] ++ t2) = s4 at *
  generalize bs (q ++ [45] ++ t1 ++ [45]) = s3 at *
  generalize bs (q ++ [45] ++ t1) = s2 at *
  generalize bs (q ++ [45]) = s1 at *
  generalize bs q = s0 at *
  generalize bs t1 = u1 at *
  generalize bs t2 = u2 at *
  clear h hi hn hnb hL hP hpad hpl hq hql ht1 ht2 l1 l2 htx
  generalize bs (Lib.decDigits n) = p0 at *
  by_cases hy : y < 0
  · have a0 := a0 hy
    clear b0
    rw [show decide (y < 0) = true from decide_eq_true hy] at r1
    clear hy
    go_enter Tryz.func29, Tryz.ntmps29
    go_upto_region 1 with fail
    generalize (w.alloc (.cells #[.int .i64 y, .int .i64 m, .int .i64 d] 23)) = w0 at *
    have kHA0 := HA.out.c0
    have kHA1 := HA.out.c1
    have kHA2 := HA.out.c2
    go_wp2_with fail
    refine (r1.out _).mono ?_
    rintro e u1 ⟨⟨a, cap, rfl, hd, _⟩, hbl⟩
    clear kHA0 kHA1 kHA2
    have HB := Kp.mk (HB.out.step hbl)
    have HA := Kp.mk (HA.out.step hbl)
    clear hbl
    have HD := Kp.mk hd
    clear hd
    generalize (dg n).length = len at *
    have kHA0 := HA.out.c0
    have kHA1 := HA.out.c1
    have kHA2 := HA.out.c2
    go_upto_region 2 with fail
    clear kHA0 kHA1 kHA2
    have HN := Kp.mk (nm_new (neg := true) R1.NT HD.out)
    have hbl := (Below.refl u1.heap.size u1).alloc (Nat.le_refl _) (.cells #[.bool true, .slice a len cap] R1.NT)
    have HB := Kp.mk (HB.out.step hbl)
    have HA := Kp.mk (HA.out.step hbl)
    clear hbl
    generalize u1.alloc (.cells #[.bool true, .slice a len cap] R1.NT) = v1 at *
    generalize u1.heap.size = gn at *
    have kn0 := HN.out.c0
    have kn1 := HN.out.c1
    have HD := Kp.mk HN.out.ds
    go_wp2_with fail
    refine (r2.out _ _ HD.out).mono ?_
    rintro e v2 ⟨rfl, hbl⟩
    clear kn0 kn1
    have HN := Kp.mk (HN.out.step hbl)
    have HB := Kp.mk (HB.out.step hbl)
    have HA := Kp.mk (HA.out.step hbl)
    clear hbl
    have kn0 := HN.out.c0
    rw [HP0.out]
    go_wp2_with fail
    go_loop [4] (fun s => ∃ j : Nat, j ≤ 4 - L ∧ s = .string (P j)) (fun s => 4 - lenOf s)
    case atStart => exact ⟨0, by omega, rfl⟩
    case round =>
      obtain ⟨j, hj, rfl⟩ := hrel
      have hsz := HPS.out j
      by_cases hlt : j < 4 - L
      · have t1 : ((P j).size : Int) < 4 := by omega
        have ha := HPA.out j (by omega)
        have hsz2 := HPS.out (j + 1)
        have HM := Kp.mk (show 4 - (P (j + 1)).size < 4 - (P j).size by omega)
        clear hsz hsz2
        go_wp2_with fail
        go_round
        case rel => exact ⟨j + 1, by omega, rfl⟩
        case measure => simpa [lenOf] using HM.out
      · obtain rfl : j = 4 - L := by omega
        have t1 : ¬ ((P (4 - L)).size : Int) < 4 := by omega
        clear hsz hlt hj
        go_upto_region 7 with fail
        clear t1 kn0
        have kHA0 := HA.out.c0
        have kHA1 := HA.out.c1
        have kHA2 := HA.out.c2
        go_upto_region 7 with fail
        have hbl := (Below.refl v2.heap.size v2).drew
        have HBz := Kp.mk (HB.out.step hbl)
        have HAz := Kp.mk (HA.out.step hbl)
        clear hbl
        go_region_held3 (fun w' => w'.cell? ⟨w.heap.size, 0, none⟩ = some (.int .i64 y) ∧ w'.cell? ⟨w.heap.size, 1, none⟩ = some (.int .i64 m) ∧ w'.cell? ⟨w.heap.size, 2, none⟩ = some (.int .i64 d)) (first | go_keep | exact ⟨kHA0_u3, kHA1_u3, kHA2_u3⟩ | exact ⟨kHA0_u4, kHA1_u4, kHA2_u4⟩)
          (first
            | (go_at_call 56; (with_reducible show Calls _ _ _ v2.drew _); refine (r3.out _).mono ?_; rintro e u3 ⟨rfl, hb⟩; have HB_u3 := Kp.mk (HBz.out.step hb); have HA_u3 := Kp.mk (HAz.out.step hb); have kHA0_u3 := HA_u3.out.c0; have kHA1_u3 := HA_u3.out.c1; have kHA2_u3 := HA_u3.out.c2; clear hb)
            | (go_at_call 56; (with_reducible show Calls _ _ _ u3 _); refine (r4.out _).mono ?_; rintro e u4 ⟨rfl, hb⟩; have HB_u4 := Kp.mk (HB_u3.out.step hb); have HA_u4 := Kp.mk (HA_u3.out.step hb); have kHA0_u4 := HA_u4.out.c0; have kHA1_u4 := HA_u4.out.c1; have kHA2_u4 := HA_u4.out.c2; clear hb))
        have HB := HB_u4
        have HA := HA_u4
        have kHA0 := HA.out.c0
        have kHA1 := HA.out.c1
        have kHA2 := HA.out.c2
        go_wp2_with fail
        go_ret
        exact ⟨rfl, HB.out.below⟩
  · have bk := Kp.mk (b0 hy)
    clear a0 b0
    rw [show decide (y < 0) = false from decide_eq_false hy] at r1
    clear hy
    go_enter Tryz.func29, Tryz.ntmps29
    go_upto_region 1 with fail
    generalize (w.alloc (.cells #[.int .i64 y, .int .i64 m, .int .i64 d] 23)) = w0 at *
    have kHA0 := HA.out.c0
    have kHA1 := HA.out.c1
    have kHA2 := HA.out.c2
    go_wp2_with fail
    refine (r1.out _).mono ?_
    rintro e u1 ⟨⟨a, cap, rfl, hd, _⟩, hbl⟩
    clear kHA0 kHA1 kHA2
    have HB := Kp.mk (HB.out.step hbl)
    have HA := Kp.mk (HA.out.step hbl)
    clear hbl
    have HD := Kp.mk hd
    clear hd
    generalize (dg n).length = len at *
    have kHA0 := HA.out.c0
    have kHA1 := HA.out.c1
    have kHA2 := HA.out.c2
    go_upto_region 2 with fail
    clear kHA0 kHA1 kHA2
    have HN := Kp.mk (nm_new (neg := false) R1.NT HD.out)
    have hbl := (Below.refl u1.heap.size u1).alloc (Nat.le_refl _) (.cells #[.bool false, .slice a len cap] R1.NT)
    have HB := Kp.mk (HB.out.step hbl)
    have HA := Kp.mk (HA.out.step hbl)
    clear hbl
    generalize u1.alloc (.cells #[.bool false, .slice a len cap] R1.NT) = v1 at *
    generalize u1.heap.size = gn at *
    have kn0 := HN.out.c0
    have kn1 := HN.out.c1
    have HD := Kp.mk HN.out.ds
    go_wp2_with fail
    refine (r2.out _ _ HD.out).mono ?_
    rintro e v2 ⟨rfl, hbl⟩
    clear kn0 kn1
    have HN := Kp.mk (HN.out.step hbl)
    have HB := Kp.mk (HB.out.step hbl)
    have HA := Kp.mk (HA.out.step hbl)
    clear hbl
    have kn0 := HN.out.c0
    rw [HP0.out]
    go_wp2_with fail
    go_loop [4] (fun s => ∃ j : Nat, j ≤ 4 - L ∧ s = .string (P j)) (fun s => 4 - lenOf s)
    case atStart => exact ⟨0, by omega, rfl⟩
    case round =>
      obtain ⟨j, hj, rfl⟩ := hrel
      have hsz := HPS.out j
      by_cases hlt : j < 4 - L
      · have t1 : ((P j).size : Int) < 4 := by omega
        have ha := HPA.out j (by omega)
        have hsz2 := HPS.out (j + 1)
        have HM := Kp.mk (show 4 - (P (j + 1)).size < 4 - (P j).size by omega)
        clear hsz hsz2
        go_wp2_with fail
        go_round
        case rel => exact ⟨j + 1, by omega, rfl⟩
        case measure => simpa [lenOf] using HM.out
      · obtain rfl : j = 4 - L := by omega
        have t1 : ¬ ((P (4 - L)).size : Int) < 4 := by omega
        clear hsz hlt hj
        go_upto_region 7 with fail
        rw [bk.out]
        clear t1 kn0
        have kHA0 := HA.out.c0
        have kHA1 := HA.out.c1
        have kHA2 := HA.out.c2
        go_upto_region 7 with fail
        have hbl := (Below.refl v2.heap.size v2).drew
        have HBz := Kp.mk (HB.out.step hbl)
        have HAz := Kp.mk (HA.out.step hbl)
        clear hbl
        go_region_held3 (fun w' => w'.cell? ⟨w.heap.size, 0, none⟩ = some (.int .i64 y) ∧ w'.cell? ⟨w.heap.size, 1, none⟩ = some (.int .i64 m) ∧ w'.cell? ⟨w.heap.size, 2, none⟩ = some (.int .i64 d)) (first | go_keep | exact ⟨kHA0_u3, kHA1_u3, kHA2_u3⟩ | exact ⟨kHA0_u4, kHA1_u4, kHA2_u4⟩)
          (first
            | (go_at_call 56; (with_reducible show Calls _ _ _ v2.drew _); refine (r3.out _).mono ?_; rintro e u3 ⟨rfl, hb⟩; have HB_u3 := Kp.mk (HBz.out.step hb); have HA_u3 := Kp.mk (HAz.out.step hb); have kHA0_u3 := HA_u3.out.c0; have kHA1_u3 := HA_u3.out.c1; have kHA2_u3 := HA_u3.out.c2; clear hb)
            | (go_at_call 56; (with_reducible show Calls _ _ _ u3 _); refine (r4.out _).mono ?_; rintro e u4 ⟨rfl, hb⟩; have HB_u4 := Kp.mk (HB_u3.out.step hb); have HA_u4 := Kp.mk (HA_u3.out.step hb); have kHA0_u4 := HA_u4.out.c0; have kHA1_u4 := HA_u4.out.c1; have kHA2_u4 := HA_u4.out.c2; clear hb))
        have HB := HB_u4
        have HA := HA_u4
        have kHA0 := HA.out.c0
        have kHA1 := HA.out.c1
        have kHA2 := HA.out.c2
        go_wp2_with fail
        go_ret
        exact ⟨rfl, HB.out.below⟩
end Go.Proofs.YtoafigehcgledaaGreatDoor
