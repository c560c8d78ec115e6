/-
  DERIVED. CONTRACT of the reference of layer 6 (civils): Parse, what is refused for its year's form. Written by mkcvparse.py.
-/
import Derived.Test.YtoafigehcgledaaGreatDoorPCvRefM
namespace Go.Proofs.YtoafigehcgledaaGreatDoor
open Go.RowKit

set_option maxRecDepth 100000 in
set_option maxHeartbeats 4000000 in
theorem rp_ok_pos_far {l yr : List UInt8} {a b c d : UInt8} {k : Nat} {y : Int} (hC : Cut l yr 45 a b 45 c d k) (hk : 4 ≤ k) (hm : k ≤ 94) (h2 : digB [c, d] = true) (h5 : digB [a, b] = true)
    (h4 : 4 ≤ yr.length) (hds : digB yr = true) (hlead : 4 < yr.length → ¬ yr.getD 0 0 = 48) (h0 : ¬ yr.getD 0 0 = 45) (hy : yv false yr = y) (hI : -9223372036854775808 ≤ y ∧ y ≤ 9223372036854775807) (hY : isY y = false) (w : World) :
    Calls Tryz.prog 30 #[.string (bs l)] w fun e w' => e = .returned (.tuple #[.agg #[.int .i64 0, .int .i64 0, .int .i64 0], .int .i64 6]) ∧ Below w.heap.size w w' := by
  obtain ⟨n, hn⟩ : ∃ n, k + 6 = n := ⟨_, rfl⟩
  obtain ⟨i1, hi1⟩ : ∃ n, k + 5 = n := ⟨_, rfl⟩
  obtain ⟨i2, hi2⟩ : ∃ n, k + 4 = n := ⟨_, rfl⟩
  obtain ⟨i3, hi3⟩ : ∃ n, k + 3 = n := ⟨_, rfl⟩
  obtain ⟨i4, hi4⟩ : ∃ n, k + 2 = n := ⟨_, rfl⟩
  obtain ⟨i5, hi5⟩ : ∃ n, k + 1 = n := ⟨_, rfl⟩
  have hlen : (bs l).size = n := by rw [bs_size, hC.size, hn]
  have x3 := idx_bs (i := i3) (c := 45) (by rw [← hi3]; exact hC.at 3)
  have x6 := idx_bs (i := k) (c := 45) (hC.at 0)
  have y2 := from_bs (l := l) (i := i2) (by rw [hC.size]; omega)
  have y5 := mid_bs (l := l) (i := i5) (j := i3) (by omega) (by rw [hC.size]; omega)
  rw [← hi2, hC.dd, hi2] at y2
  rw [← hi5, ← hi3, hC.mm, hi5, hi3] at y5
  have w1 : IntKind.i64.wrap ((n : Int) - 1) = (i1 : Int) := by rw [show (n : Int) - 1 = (i1 : Int) by omega]; exact IntWalk.i64_in _ (by omega)
  have w2 : IntKind.i64.wrap ((n : Int) - 2) = (i2 : Int) := by rw [show (n : Int) - 2 = (i2 : Int) by omega]; exact IntWalk.i64_in _ (by omega)
  have w3 : IntKind.i64.wrap ((n : Int) - 3) = (i3 : Int) := by rw [show (n : Int) - 3 = (i3 : Int) by omega]; exact IntWalk.i64_in _ (by omega)
  have w4 : IntKind.i64.wrap ((n : Int) - 4) = (i4 : Int) := by rw [show (n : Int) - 4 = (i4 : Int) by omega]; exact IntWalk.i64_in _ (by omega)
  have w5 : IntKind.i64.wrap ((n : Int) - 5) = (i5 : Int) := by rw [show (n : Int) - 5 = (i5 : Int) by omega]; exact IntWalk.i64_in _ (by omega)
  have w6 : IntKind.i64.wrap ((n : Int) - 6) = (k : Int) := by rw [show (n : Int) - 6 = (k : Int) by omega]; exact IntWalk.i64_in _ (by omega)
  have hn10 : ¬ (n : Int) < 10 := by omega
  have r2 := Kp.mk (fun w => digits_is (s := bs [c, d]) (b := true) (by rw [bs_size]; simp) h2 w)
  have r5 := Kp.mk (fun w => digits_is (s := bs [a, b]) (b := true) (by rw [bs_size]; simp) h5 w)
  have y6 := to_bs (l := l) (i := k) (by rw [hC.size]; omega)
  rw [hC.z] at y6
  have t3 : (((45 : UInt8).toNat : Int) != 45) = false := by decide
  have hyl : yr.length = k := hC.len
  obtain ⟨c0, hc0⟩ : ∃ c0, yr[0]? = some c0 := ⟨yr[0]'(by omega), List.getElem?_eq_getElem _⟩
  have v0 : ∀ w, (Instr.index 9 (.string (bs yr)) (.int .i64 0)).run Tryz.prog w = .ok (.int .u8 (c0.toNat : Int)) w := idx_bs (i := 0) hc0
  have hgd : yr.getD 0 0 = c0 := by rw [List.getD_eq_getElem?_getD, hc0]; rfl
  obtain ⟨ny, hny⟩ : ∃ n, yr.length = n := ⟨_, rfl⟩
  have hys : (bs yr).size = ny := by rw [bs_size, hny]
  obtain ⟨By, hBy⟩ : ∃ B, digB yr = B := ⟨_, rfl⟩
  have ry := Kp.mk (fun w => digits_is (s := bs yr) (b := By) (by rw [bs_size]; omega) hBy w)
  obtain ⟨Z, hZ⟩ : ∃ Z, decide (yr = [48, 48, 48, 48]) = Z := ⟨_, rfl⟩
  have hz : ((bs yr).toList == [48, 48, 48, 48]) = Z := by
    rw [← hZ, ByteArray.toList_eq, show (bs yr).data.toList = yr from rfl, Bool.eq_iff_iff, beq_iff_eq, decide_eq_true_iff]
  rw [hds] at hBy
  subst hBy
  rw [hny] at h4 hlead
  rw [hgd] at hlead
  have g4 : ¬ (ny : Int) < 4 := by omega
  have hZf : True := trivial
  clear hZf
  have x1 := idx_bs (i := i1) (c := d) (by rw [← hi1]; exact hC.at 5)
  have x2 := idx_bs (i := i2) (c := c) (by rw [← hi2]; exact hC.at 4)
  have x4 := idx_bs (i := i4) (c := b) (by rw [← hi4]; exact hC.at 2)
  have x5 := idx_bs (i := i5) (c := a) (by rw [← hi5]; exact hC.at 1)
  have hda : dig a := (digB_iff _).1 h5 a (by simp)
  have hdb : dig b := (digB_iff _).1 h5 b (by simp)
  have hdc : dig c := (digB_iff _).1 h2 c (by simp)
  have hdd : dig d := (digB_iff _).1 h2 d (by simp)
  have hyd := (digB_iff _).1 hds
  obtain ⟨N, hN⟩ : ∃ N, valM 0 yr = N := ⟨_, rfl⟩
  obtain ⟨len, hl⟩ : ∃ len, (dg N).length = len := ⟨_, rfl⟩
  have hlen : len ≤ 1000 := by
    have h1 := (val_fx' hyd).2
    rw [hN, hny] at h1
    have h2 := dg_length_le N ny h1
    omega
  have hyN : y = if false then -(N : Int) else N := by rw [← hy]; unfold yv; rw [hN]
  have hsn : false = true → ¬ N = 0 := by
    intro h; cases h
  obtain ⟨Y, hYd⟩ : ∃ Y : Nat → ByteArray, Y = fun j => bs (yr.drop j) := ⟨_, rfl⟩
  obtain ⟨V, hVd⟩ : ∃ V : Nat → Nat, V = fun j => (yr.getD j 0).toNat := ⟨_, rfl⟩
  have HY0 : Kp (bs yr = Y 0) := Kp.mk (by rw [hYd]; rfl)
  have HYS : Kp (∀ j, j < ny → ((Y j).size : Int) = ny - j) := Kp.mk (fun j hj => by rw [hYd]; simp only [bs_size, List.length_drop, hny]; omega)
  have HYI : Kp (∀ j, j < ny → ∀ w, (Instr.index 9 (.string (Y j)) (.int .i64 0)).run Tryz.prog w = .ok (.int .u8 (V j : Int)) w) := Kp.mk (fun j hj w => by
    rw [hYd, hVd]
    refine idx_bs (i := 0) (c := yr.getD j 0) ?_ w
    rw [List.getElem?_drop, Nat.add_zero, List.getD_eq_getElem?_getD, List.getElem?_eq_getElem (by rw [hny]; exact hj)]; rfl)
  have HYT : Kp (∀ j, j < ny → ∀ w, (Instr.slice 9 (.string (Y j)) (some (.int .i64 1)) none none).run Tryz.prog w = .ok (.string (Y (j + 1))) w) := Kp.mk (fun j hj w => by
    rw [hYd]
    have := from_bs (l := yr.drop j) (i := 1) (by rw [List.length_drop, hny]; omega) w
    rw [List.drop_drop] at this
    exact this)
  have HYZ : Kp (∀ j, V j = 48 → j < ny → yr[j]? = some 48) := Kp.mk (fun j h hj => by
    rw [hVd] at h
    rw [List.getElem?_eq_getElem (by rw [hny]; exact hj)]
    congr 1
    apply UInt8.toNat_inj.1
    simp only [List.getD_eq_getElem?_getD, List.getElem?_eq_getElem (show j < yr.length by rw [hny]; exact hj), Option.getD_some] at h
    exact h)
  have HP : Kp (∀ j, j < ny → (∀ i, i < j → yr[i]? = some 48) → (ny - j = 1 ∨ ¬ V j = 48) → ∀ w, Calls Tryz.prog 58 #[.string (Y j)] w fun e w' => (∃ a cap, e = .returned (.tuple #[.agg #[.bool false, .slice a len cap], .bool true]) ∧ R1.Digs w' (.slice a len cap) (dg N)) ∧ Below w.heap.size w w') := Kp.mk (fun j hj hz hv w => by
    rw [hYd]
    refine num_pos (fun x hx => hyd x (List.mem_of_mem_drop hx)) (by rw [List.length_drop, hny]; omega) (by rw [List.length_drop, hny]; omega) ?_ (by rw [strip_val j hz, hN]) hl w
    rcases hv with h | h
    · left; rw [List.length_drop, hny]; exact h
    · right; intro e; apply h; rw [hVd]; show (yr.getD j 0).toNat = 48
      rw [List.getD_eq_getElem?_getD, List.getElem?_drop, Nat.add_zero] at e
      rw [List.getD_eq_getElem?_getD, e]; rfl)
  have HI : Kp (∀ w va, R1.Digs w va (dg N) → Calls Tryz.prog 60 #[.agg #[.bool false, va]] w fun e w' => e = .returned (.tuple #[.int .i64 y, .bool true]) ∧ Below w.heap.size w w') := Kp.mk (fun w va hd => num_int hyN hsn hl hlen hI.1 hI.2 w va hd)
  have rY := Kp.mk (fun w => refIs_is w hY)
  have t8 : 4 < ny → ((c0.toNat : Int) == 48) = false := fun g => by
    rw [beq_eq_false_iff_ne]; intro e; exact hlead g (UInt8.toNat_inj.1 (by show c0.toNat = 48; omega))
  have HT8 := Kp.mk t8
  have Hny := Kp.mk h4
  have t0 : ((c0.toNat : Int) == 45) = false := by
    rw [beq_eq_false_iff_ne]; intro e; exact h0 (by rw [hgd]; exact UInt8.toNat_inj.1 (by show c0.toNat = 45; omega))
  have HB0 := Kp.mk ((Below.refl w.heap.size w).alloc (Nat.le_refl _) (.cells #[.int .i64 0, .int .i64 0, .int .i64 0] 23))
  have HR0 := Kp.mk (rz_new w 23)
  clear hC hk hm hn hi1 hi2 hi3 hi4 hi5 h2 h5 hyl hc0 hgd hny hZ h4 hds hlead hda hdb hdc hdd hyd hN hl hlen hyN hsn hYd hVd t8 hy h0 hz hI hY
  clear Z
  generalize bs l = s at *
  generalize bs [c, d] = s2 at *
  generalize bs [a, b] = s5 at *
  generalize bs yr = sy at *
  generalize a.toNat = va at *
  generalize b.toNat = vb at *
  generalize c.toNat = vc at *
  generalize d.toNat = vd at *
  generalize c0.toNat = v0n at *
  go_enter Tryz.func30, Tryz.ntmps30
  go_wp2_with fail
  refine (r2.out _).mono ?_
  rintro e w' ⟨rfl, rfl⟩
  go_wp2_with fail
  refine (r5.out _).mono ?_
  rintro e w' ⟨rfl, rfl⟩
  go_upto_region 8 with fail
  generalize w.alloc (.cells #[.int .i64 0, .int .i64 0, .int .i64 0] 23) = w0 at *
  go_cut [84] from 60 to 84 (fun p wx => p = .bool false ∧ wx = w0)
  case first =>
    by_cases g5 : (4 : Int) < (ny : Int)
    · have t8 := HT8.out (by omega)
      go_wp2_with fail
      refine (ry.out _).mono ?_
      rintro e w' ⟨rfl, rfl⟩
      go_wp2_with fail
      go_meet
      exact ⟨by rw [decide_eq_false (by omega)], rfl⟩
    · go_wp2_with fail
      refine (ry.out _).mono ?_
      rintro e w' ⟨rfl, rfl⟩
      go_wp2_with fail
      go_meet
      exact ⟨by rw [decide_eq_false (by omega)], rfl⟩
  case rest =>
    obtain ⟨rfl, rfl⟩ := hcut
    rw [HY0.out]
    go_wp2_with fail
    go_loop [5] (fun x => ∃ j : Nat, j < ny ∧ x = .string (Y j) ∧ Kp (∀ i, i < j → yr[i]? = some 48)) (fun x => lenOf x)
    case atStart => exact ⟨0, by have := Hny.out; omega, rfl, Kp.mk (fun i hi => by omega)⟩
    case round =>
      obtain ⟨j, hj, rfl, HZ⟩ := hrel
      have hsz := HYS.out j hj
      have hix := HYI.out j hj
      have hsl := HYT.out j hj
      obtain ⟨B, hB⟩ : ∃ B, decide (1 < ny - j ∧ V j = 48) = B := ⟨_, rfl⟩
      have HBB := Kp.mk hB
      have HJ := Kp.mk hj
      have HM : Kp (1 < ny - j → lenOf (.string (Y (j + 1))) < lenOf (.string (Y j))) := Kp.mk (fun g => by
        have h1 := HYS.out j hj
        have h2 := HYS.out (j + 1) (by omega)
        show (Y (j + 1)).size < (Y j).size
        omega)
      have HZ2 : Kp (1 < ny - j ∧ V j = 48 → ∀ i, i < j + 1 → yr[i]? = some 48) := Kp.mk (fun g i hi => by
        by_cases e : i = j
        · subst e; exact HYZ.out i g.2 hj
        · exact HZ.out i (by omega))
      clear hB hj
      go_upto_region 10 with fail
      go_cut [93] from 86 to 95 (fun p wx => p = .bool B ∧ wx = wc)
      case first =>
        by_cases g1 : 1 < ny - j
        · have t1 : (1 : Int) < (ny : Int) - (j : Int) := by omega
          by_cases g2 : V j = 48
          · have t2 : ((V j : Int) == 48) = true := by rw [g2]; decide
            have HX : Kp (decide (1 < ny - j ∧ V j = 48) = true) := Kp.mk (decide_eq_true ⟨g1, g2⟩)
            clear g1 g2
            go_wp2_with fail
            go_meet
            exact ⟨by rw [← HBB.out, HX.out], rfl⟩
          · have t2 : ((V j : Int) == 48) = false := by rw [beq_eq_false_iff_ne]; omega
            have HX : Kp (decide (1 < ny - j ∧ V j = 48) = false) := Kp.mk (decide_eq_false (fun h => g2 h.2))
            clear g1 g2
            go_wp2_with fail
            go_meet
            exact ⟨by rw [← HBB.out, HX.out], rfl⟩
        · have t1 : ¬ (1 : Int) < (ny : Int) - (j : Int) := by omega
          have HX : Kp (decide (1 < ny - j ∧ V j = 48) = false) := Kp.mk (decide_eq_false (fun h => g1 h.1))
          clear g1
          go_wp2_with fail
          go_meet
          exact ⟨by rw [← HBB.out, HX.out], rfl⟩
      case rest =>
        obtain ⟨rfl, rfl⟩ := hcut
        cases B
        · have hv : Kp (ny - j = 1 ∨ ¬ V j = 48) := Kp.mk (by
            have h := of_decide_eq_false HBB.out
            have := HJ.out
            by_cases e : ny - j = 1
            · exact .inl e
            · exact .inr (fun g => h ⟨by omega, g⟩))
          have HPj := Kp.mk (HP.out j HJ.out HZ.out hv.out)
          clear hv HBB HZ HZ2 HM hix hsl hsz
          go_wp2_with fail
          refine (HPj.out _).mono ?_
          rintro e u1 ⟨⟨pa, cap, rfl, hd⟩, hbl⟩
          have HBw := Kp.mk (HB0.out.trans (hbl.mono HB0.out.size))
          have HR1 := Kp.mk (HR0.out.step hbl)
          have HA := Kp.mk (show ∀ p, pa = some p → ¬ p.block = u1.heap.size from fun p hp => by
            subst hp
            have := R1.sb_lt hd p.block (by simp [R1.sb])
            omega)
          have HDs := Kp.mk hd
          clear hd hbl HB0 HR0
          go_upto_region 13 with fail
          have HS := Kp.mk (st_new (sg := false) R1.NT HBw.out HR1.out HDs.out)
          clear HBw HR1 HDs
          generalize u1.alloc (.cells #[.bool false, .slice pa len cap] R1.NT) = u2 at *
          generalize u1.heap.size = g at *
          clear HA
          go_upto_region 15 with fail
          have kn0 := HS.out.nm.c0
          have kn1 := HS.out.nm.c1
          go_wp2_with fail
          refine (HI.out _ _ HS.out.nm.ds).mono ?_
          rintro e u5 ⟨rfl, hbl⟩
          have HS := Kp.mk (HS.out.step hbl)
          clear hbl kn0 kn1 HI
          have z0 := HS.out.rz.c0
          have z1 := HS.out.rz.c1
          have z2 := HS.out.rz.c2
          have z3 := HS.out.rz.f0
          have z4 := HS.out.rz.f1
          have z5 := HS.out.rz.f2
          go_wp2_with fail
          refine (rY.out _).mono ?_
          rintro e w' ⟨rfl, rfl⟩
          go_wp2_with fail
          refine bodyPost_ret (v := .tuple #[.agg #[.int .i64 0, .int .i64 0, .int .i64 0], .int .i64 6]) (by simp [results, Tryz.results30, go_sem, z0, z1, z2]) rfl ?_
          exact ⟨rfl, ((HS.out.below.setCell (p := ⟨w.heap.size, 0, none⟩) (Nat.le_refl _) _).setCell (p := ⟨w.heap.size, 1, none⟩) (Nat.le_refl _) _).setCell (p := ⟨w.heap.size, 2, none⟩) (Nat.le_refl _) _⟩
        · have h := of_decide_eq_true HBB.out
          have HZ3 := Kp.mk (HZ2.out h)
          have HM2 := Kp.mk (HM.out h.1)
          have HJ2 : Kp (j + 1 < ny) := Kp.mk (by omega)
          clear h
          go_wp2_with fail
          go_round
          case rel => exact ⟨j + 1, HJ2.out, rfl, HZ3⟩
          case measure => exact HM2.out
end Go.Proofs.YtoafigehcgledaaGreatDoor
