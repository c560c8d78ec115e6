/-
  DERIVED. WALK of the closed law MasksKnown.
-/
import Derived.Test.YtabhfpfnaaihjaaMkLives
namespace Go.Proofs.Ytabhfpfnaaihjaa
open Go.RowKit

def knL : List ByteArray := [⟨#[88]⟩, ⟨#[55]⟩, ⟨#[88, 88]⟩, ⟨#[48, 88]⟩, ⟨#[88, 48]⟩, ⟨#[57, 88]⟩, ⟨#[49, 88, 48, 88]⟩, ⟨#[88, 88, 51, 49]⟩, ⟨#[48, 48, 88, 57]⟩]
def knAt (i : Nat) : ByteArray := knL.getD i ⟨#[]⟩
theorem knArr : #[Value.string ⟨#[88]⟩, Value.string ⟨#[55]⟩, Value.string ⟨#[88, 88]⟩, Value.string ⟨#[48, 88]⟩, Value.string ⟨#[88, 48]⟩, Value.string ⟨#[57, 88]⟩, Value.string ⟨#[49, 88, 48, 88]⟩, Value.string ⟨#[88, 88, 51, 49]⟩, Value.string ⟨#[48, 48, 88, 57]⟩] = (knL.map Value.string).toArray := rfl
theorem kn_get {i : Nat} (h : i < 9) : (knL.map Value.string).toArray[i]? = some (.string (knAt i)) := by
  unfold knAt
  rw [List.getElem?_toArray, List.getElem?_map, List.getD_eq_getElem?_getD, List.getElem?_eq_getElem (h := (show i < knL.length from h))]; rfl
theorem kn_all : ∀ i : Fin 9, checkI (knAt i) = 0 ∧ (knAt i).size ≤ 4 := by decide +kernel
/-- the row, as every world of the loops has it -/
structure Kn (w W : World) : Prop where
  below : Below w.heap.size w W
  size : w.heap.size < W.heap.size
  strs : ∀ i, i < 9 → W.cell? ⟨w.heap.size, i, none⟩ = some (.string (knAt i))
theorem Kn.step {w W W' : World} (h : Kn w W) (hb : Below W.heap.size W W') : Kn w W' :=
  ⟨h.below.trans (hb.mono h.below.size), by have := hb.size; have := h.size; omega, fun i hi => by rw [hb.cell (p := ⟨w.heap.size, i, none⟩) h.size]; exact h.strs i hi⟩
theorem kn_start (w : World) : Kn w (w.alloc (.cells #[Value.string ⟨#[88]⟩, Value.string ⟨#[55]⟩, Value.string ⟨#[88, 88]⟩, Value.string ⟨#[48, 88]⟩, Value.string ⟨#[88, 48]⟩, Value.string ⟨#[57, 88]⟩, Value.string ⟨#[49, 88, 48, 88]⟩, Value.string ⟨#[88, 88, 51, 49]⟩, Value.string ⟨#[48, 48, 88, 57]⟩] 9)) := by
  rw [knArr]
  have hb : Below w.heap.size w (w.alloc (.cells (knL.map Value.string).toArray 9)) := (Below.refl _ _).alloc (Nat.le_refl _) _
  refine ⟨hb, by simp, fun i h => ?_⟩
  rw [World.cell?_alloc_new, kn_get h]
/-- the number seen last -/
def lastI (l : List Nat) (b : Nat) : Int := if b = 0 then -1 else (nth l (b - 1) : Int)
theorem kn_has {l : List Nat} (hd : Dm l) {c b : Nat} (h : hasI l (c : Int) = true) (hb : Blw l (c : Int) b) :
    b < cnt l ∧ nth l b = c ∧ Blw l (lastI l b + 1) b ∧ Blw l ((c : Int) + 1) (b + 1) := by
  obtain ⟨i, h1, h2⟩ := has_at hd h
  have hi : b = i := blw_uniq hb (by have := blw_nth h1; rw [h2] at this; exact this)
  subst hi
  have h3 : nth l b = c := by omega
  refine ⟨h1, h3, ⟨by omega, fun j hj => ?_, fun j hj hc => ?_⟩, ⟨by omega, fun j hj => ?_, fun j hj hc => ?_⟩⟩
  · unfold lastI
    rw [if_neg (by omega)]
    have := @nth_le l j (b - 1) (by omega) (by omega)
    omega
  · unfold lastI
    split
    · omega
    · have := @nth_mono l (b - 1) j (by omega) hc
      omega
  · have := @nth_le l j b (by omega) h1
    omega
  · have := @nth_mono l b j (by omega) hc
    omega
theorem kn_not {l : List Nat} (hd : Dm l) {n : Int} {b : Nat} (h : hasI l n = false) (hb : Blw l n b) : Blw l (n + 1) b ∧ ¬ (b < cnt l ∧ (nth l b : Int) = n) := by
  have hne : ∀ j, j < cnt l → ¬ (nth l j : Int) = n := fun j hj e => by
    have := has_nth hd hj
    rw [e, h] at this
    cases this
  refine ⟨⟨hb.1, fun j hj => ?_, fun j hj hc => ?_⟩, fun e => hne b e.1 e.2⟩
  · have := hb.2.1 j hj; omega
  · have := hb.2.2 j hj hc
    have := hne j hc
    omega
theorem kn_prev {l : List Nat} {n : Int} {b : Nat} (h : ¬ (b < cnt l ∧ (nth l b : Int) = n)) : prevR l n b = (if b = 0 then 0 else lastI l b, if b = 0 then false else true) := by
  unfold prevR lastI
  rw [if_neg h]
  split <;> simp_all
theorem kn_end {s : ByteArray} (hs : Mk s) (h4 : s.size ≤ 4) {b : Nat} (hb : Blw (codes s) 10010 b) : b = cnt (codes s) := by
  by_cases e : b = cnt (codes s)
  · exact e
  · have h1 := hb.1
    have h2 := hb.2.2 b (Nat.le_refl _) (by omega)
    have h3 := nth_lt hs.ok b
    rw [codes_len] at h3
    have h5 : 10 ^ s.size ≤ 10 ^ 4 := Nat.pow_le_pow_right (by decide) h4
    have h6 : (10 : Nat) ^ 4 = 10000 := by decide
    omega
def W18 : ByteArray := ⟨#[88, 88, 88, 88, 88, 88, 88, 88, 88, 88, 88, 88, 88, 88, 88, 88, 88, 88]⟩
def W9 : ByteArray := ⟨#[57, 88, 88, 88, 88, 88, 88, 88, 88, 88, 88, 88, 88, 88, 88, 88, 88, 48]⟩
theorem mkW : Mk W18 := mk_of_check (by rfl)
theorem mk9 : Mk W9 := mk_of_check (by rfl)
theorem wd1 (w : World) : Calls Try.prog 9 #[.string W18] w fun e w' => e = .returned (.tuple #[.int .i64 1000000000000000000, .int .i64 0]) ∧ Below w.heap.size w w' := count_is (c := 1000000000000000000) w mkW (by decide +kernel)
theorem wd2 (w : World) : Calls Try.prog 11 #[.string W18] w fun e w' => e = .returned (.tuple #[.int .i64 999999999999999999, .int .i64 0]) ∧ Below w.heap.size w w' := (p_ends w (fun w => ends_is (lo := 0) (hi := 999999999999999999) w mkW (by decide +kernel) (by decide +kernel))).2
theorem wd3 (w : World) : Calls Try.prog 24 #[.string W18, .int .i64 1000000000000000000] w fun e w' => e = .returned (.tuple #[.int .i64 0, .int .i64 16]) ∧ Below w.heap.size w w' := next_is (n := 1000000000000000000) (u := 0) (b := 1000000000000000000) (c := false) w mkW (by decide) (by decide) (blw_by mkW.ok (by decide +kernel) (by decide +kernel) (by decide +kernel)) (by decide +kernel)
theorem wd4 (w : World) : Calls Try.prog 25 #[.string W18, .int .i64 9223372036854775807] w fun e w' => e = .returned (.tuple #[.int .i64 999999999999999999, .int .i64 0]) ∧ Below w.heap.size w w' := prev_is (n := 9223372036854775807) (u := 999999999999999999) (b := 1000000000000000000) (c := true) w mkW (by decide) (by decide) (blw_by mkW.ok (by decide +kernel) (by decide +kernel) (by decide +kernel)) (by decide +kernel)
theorem wd5 (w : World) : Calls Try.prog 24 #[.string W9, .int .i64 899999999999999999] w fun e w' => e = .returned (.tuple #[.int .i64 900000000000000000, .int .i64 0]) ∧ Below w.heap.size w w' := next_is (n := 899999999999999999) (u := 900000000000000000) (b := 0) (c := true) w mk9 (by decide) (by decide) (blw_by mk9.ok (by decide +kernel) (by decide +kernel) (by decide +kernel)) (by decide +kernel)
set_option maxRecDepth 100000 in
set_option maxHeartbeats 8000000 in
theorem known_any (w : World) :
    Calls Try.prog 7 #[] w fun e w' => e = .returned (.bool true) ∧ Below w.heap.size w w' := by
  have HK := Kp.mk (kn_start w)
  go_enter Try.func7, Try.ntmps7
  go_wp2_with fail
  generalize w.alloc (.cells #[Value.string ⟨#[88]⟩, Value.string ⟨#[55]⟩, Value.string ⟨#[88, 88]⟩, Value.string ⟨#[48, 88]⟩, Value.string ⟨#[88, 48]⟩, Value.string ⟨#[57, 88]⟩, Value.string ⟨#[49, 88, 48, 88]⟩, Value.string ⟨#[88, 88, 51, 49]⟩, Value.string ⟨#[48, 48, 88, 57]⟩] 9) = w0 at *
  go_loopw [2] (fun i wr => ∃ k : Nat, k ≤ 9 ∧ i = .int .i64 k ∧ Kp (Kn w wr)) (fun i _ => 9 - (intOf i).toNat)
  case atStart => exact ⟨0, by omega, rfl, HK⟩
  case round =>
    obtain ⟨i, hi, rfl, HW⟩ := hrel
    by_cases hi2 : i < 9
    · have hi3 : (i : Int) < 9 := by omega
      have c1 := HW.out.strs i hi2
      have o1 := kn_all ⟨i, hi2⟩
      simp only at o1
      generalize knAt i = s at *
      have HS := Kp.mk (And.intro (mk_of_check o1.1) o1.2)
      clear o1
      go_wp2_with fail
      clear c1
      go_loopw [4, 5, 6] (fun la ix nn wr => ∃ (n : Int) (b : Nat), -1 ≤ n ∧ n ≤ 10010 ∧ nn = .int .i64 n ∧ ix = .int .i64 b ∧ la = .int .i64 (lastI (codes s) b) ∧ Kp (Kn w wr ∧ Blw (codes s) n b)) (fun _ _ nn _ => (10010 - intOf nn).toNat)
      case atStart => exact ⟨-1, 0, by omega, by omega, rfl, rfl, rfl, Kp.mk ⟨HW.out, by omega, by omega, by omega⟩⟩
      case round =>
        obtain ⟨n, b, hn0, hn1, rfl, rfl, rfl, HV⟩ := hrel
        by_cases hlt : n < 10010
        · obtain ⟨h, hh⟩ : ∃ h, hasI (codes s) n = h := ⟨_, rfl⟩
          have r1 := Kp.mk (fun w => refHas_is w HS.out.1 (show n ≤ 9223372036854775807 by omega) hh)
          have r2 := Kp.mk (fun w => has_is w HS.out.1 (show -9223372036854775808 ≤ n by omega) (show n ≤ 9223372036854775807 by omega) hh)
          have e3 : IntKind.i64.wrap (n + 1) = n + 1 := IntWalk.i64_in _ (by omega)
          cases h
          · obtain ⟨hb2, hno⟩ := kn_not HS.out.1.ok hh HV.out.2
            have hpr := kn_prev hno
            have HB2 := Kp.mk hb2
            have HX := Kp.mk HV.out.1
            by_cases hb0 : b = 0
            · subst hb0
              have r3 := Kp.mk (fun w => prev_is w HS.out.1 (show -9223372036854775808 ≤ n by omega) (show n ≤ 9223372036854775807 by omega) HV.out.2 hpr)
              have r4 := Kp.mk (fun w => gives_is w (givesB_out (-1)))
              have el : lastI (codes s) 0 = -1 := rfl
              simp only [el]
              clear hb2 hno hpr hh hn1
              go_wp2_with fail
              refine (r1.out _).mono ?_
              rintro e w' ⟨rfl, rfl⟩
              go_wp2_with fail
              refine (r2.out _).mono ?_
              rintro e w1 ⟨rfl, hbl⟩
              have HX := Kp.mk (HX.out.step hbl)
              clear hbl
              go_wp2_with fail
              refine (r3.out _).mono ?_
              rintro e w2 ⟨rfl, hbl⟩
              have HX := Kp.mk (HX.out.step hbl)
              clear hbl
              go_wp2_with fail
              refine (r4.out _).mono ?_
              rintro e w' ⟨rfl, rfl⟩
              go_wp2_with fail
              go_roundw
              case rel => exact ⟨n + 1, 0, by omega, by omega, by go_num, rfl, rfl, Kp.mk ⟨HX.out, HB2.out⟩⟩
              case measure => simp [intOf]; omega
            · rw [if_neg hb0, if_neg hb0] at hpr
              have hla : 0 ≤ lastI (codes s) b := by unfold lastI; rw [if_neg hb0]; omega
              have HLA := Kp.mk (show lastI (codes s) b = lastI (codes s) b from rfl)
              obtain ⟨la, ela⟩ : ∃ la, lastI (codes s) b = la := ⟨_, rfl⟩
              rw [ela] at hpr hla
              have r3 := Kp.mk (fun w => prev_is w HS.out.1 (show -9223372036854775808 ≤ n by omega) (show n ≤ 9223372036854775807 by omega) HV.out.2 hpr)
              have r4 := Kp.mk (fun w => gives_is w (givesB_in la))
              have EL := Kp.mk ela
              rw [ela]
              clear hb2 hno hpr hh hn1 ela hb0 HLA
              go_wp2_with fail
              refine (r1.out _).mono ?_
              rintro e w' ⟨rfl, rfl⟩
              go_wp2_with fail
              refine (r2.out _).mono ?_
              rintro e w1 ⟨rfl, hbl⟩
              have HX := Kp.mk (HX.out.step hbl)
              clear hbl
              go_wp2_with fail
              refine (r3.out _).mono ?_
              rintro e w2 ⟨rfl, hbl⟩
              have HX := Kp.mk (HX.out.step hbl)
              clear hbl
              go_wp2_with fail
              refine (r4.out _).mono ?_
              rintro e w' ⟨rfl, rfl⟩
              go_wp2_with fail
              go_roundw
              case rel => exact ⟨n + 1, b, by omega, by omega, by go_num, rfl, by rw [EL.out], Kp.mk ⟨HX.out, HB2.out⟩⟩
              case measure => simp [intOf]; omega
          · have hn : 0 ≤ n := by
              unfold hasI at hh
              rw [Bool.and_eq_true, decide_eq_true_eq] at hh
              exact hh.1
            obtain ⟨c, rfl⟩ := Int.eq_ofNat_of_zero_le hn
            obtain ⟨k1, k2, k3, k4⟩ := kn_has HS.out.1.ok hh HV.out.2
            have HX := Kp.mk HV.out.1
            have hcm := HS.out.1.cnt_le
            have r3 := Kp.mk (fun w => nth_is_in w HS.out.1 k1 k2)
            have hnx : nextR (codes s) b = ((c : Int), true) := by unfold nextR; rw [if_neg (by omega), k2]
            have hpv : prevR (codes s) (c : Int) b = ((c : Int), true) := by unfold prevR; rw [if_pos ⟨k1, by omega⟩]
            have hla : -1 ≤ lastI (codes s) b ∧ lastI (codes s) b < 1000000000000000000 := by
              unfold lastI
              have := nth_i64 HS.out.1 (b - 1)
              split <;> omega
            have HNL := Kp.mk (show (c : Int) = lastI (codes s) (b + 1) by unfold lastI; rw [if_neg (by omega), Nat.add_sub_cancel, k2])
            generalize lastI (codes s) b = la at *
            have e1 : IntKind.i64.wrap (la + 1) = la + 1 := IntWalk.i64_in _ (by omega)
            have e2 : IntKind.i64.wrap ((b : Int) + 1) = (b : Int) + 1 := IntWalk.i64_in _ (by omega)
            have r4 := Kp.mk (fun w => next_is w HS.out.1 (show -9223372036854775808 ≤ la + 1 by omega) (show la + 1 ≤ 9223372036854775807 by omega) k3 hnx)
            have r5 := Kp.mk (fun w => num_is w (numB_self (c : Int)))
            have r6 := Kp.mk (fun w => prev_is w HS.out.1 (show -9223372036854775808 ≤ (c : Int) by omega) (show (c : Int) ≤ 9223372036854775807 by omega) HV.out.2 hpv)
            have r7 := Kp.mk (fun w => gives_is w (givesB_in (c : Int)))
            have HB2 := Kp.mk k4
            clear k1 k2 k3 k4 hnx hpv hla hcm hh hn1 hn hn0
            go_wp2_with fail
            refine (r1.out _).mono ?_
            rintro e w' ⟨rfl, rfl⟩
            go_wp2_with fail
            refine (r2.out _).mono ?_
            rintro e w1 ⟨rfl, hbl⟩
            have HX := Kp.mk (HX.out.step hbl)
            clear hbl
            go_wp2_with fail
            refine (r3.out _).mono ?_
            rintro e w1 ⟨rfl, hbl⟩
            have HX := Kp.mk (HX.out.step hbl)
            clear hbl
            go_wp2_with fail
            refine (r4.out _).mono ?_
            rintro e w1 ⟨rfl, hbl⟩
            have HX := Kp.mk (HX.out.step hbl)
            clear hbl
            go_wp2_with fail
            refine (r5.out _).mono ?_
            rintro e w' ⟨rfl, rfl⟩
            go_wp2_with fail
            refine (r5.out _).mono ?_
            rintro e w' ⟨rfl, rfl⟩
            go_wp2_with fail
            refine (r6.out _).mono ?_
            rintro e w1 ⟨rfl, hbl⟩
            have HX := Kp.mk (HX.out.step hbl)
            clear hbl
            go_wp2_with fail
            refine (r7.out _).mono ?_
            rintro e w' ⟨rfl, rfl⟩
            go_wp2_with fail
            go_roundw
            case rel => exact ⟨(c : Int) + 1, b + 1, by omega, by omega, by go_num, by go_num, by rw [HNL.out], Kp.mk ⟨HX.out, HB2.out⟩⟩
            case measure => simp [intOf]; omega
        · obtain rfl : n = 10010 := by omega
          have hbe := kn_end HS.out.1 HS.out.2 HV.out.2
          have r1 := Kp.mk (fun w => count_is w HS.out.1 hbe.symm)
          have r2 := Kp.mk (fun w => num_is w (numB_self (b : Int)))
          have HX := Kp.mk HV.out.1
          clear hbe
          generalize lastI (codes s) b = la at *
          go_wp2_with fail
          refine (r1.out _).mono ?_
          rintro e w1 ⟨rfl, hbl⟩
          have HX := Kp.mk (HX.out.step hbl)
          clear hbl
          go_wp2_with fail
          refine (r2.out _).mono ?_
          rintro e w' ⟨rfl, rfl⟩
          go_wp2_with fail
          go_roundw
          case rel => exact ⟨i + 1, by omega, by go_num, HX⟩
          case measure => simp [intOf]; omega
    · obtain rfl : i = 9 := by omega
      have HB := Kp.mk HW.out.below
      go_wp2_with fail
      refine (wd1 _).mono ?_
      rintro e w1 ⟨rfl, hbl⟩
      have HB := Kp.mk (HB.out.trans (hbl.mono HB.out.size))
      clear hbl
      go_wp2_with fail
      refine (wd2 _).mono ?_
      rintro e w1 ⟨rfl, hbl⟩
      have HB := Kp.mk (HB.out.trans (hbl.mono HB.out.size))
      clear hbl
      go_wp2_with fail
      refine (wd3 _).mono ?_
      rintro e w1 ⟨rfl, hbl⟩
      have HB := Kp.mk (HB.out.trans (hbl.mono HB.out.size))
      clear hbl
      go_wp2_with fail
      refine (wd4 _).mono ?_
      rintro e w1 ⟨rfl, hbl⟩
      have HB := Kp.mk (HB.out.trans (hbl.mono HB.out.size))
      clear hbl
      go_wp2_with fail
      refine (wd5 _).mono ?_
      rintro e w1 ⟨rfl, hbl⟩
      have HB := Kp.mk (HB.out.trans (hbl.mono HB.out.size))
      clear hbl
      go_wp2_with fail
      refine (num_is _ (numB_self _)).mono ?_
      rintro e w' ⟨rfl, rfl⟩
      go_wp2_with fail
      refine (num_is _ (numB_self _)).mono ?_
      rintro e w' ⟨rfl, rfl⟩
      go_wp2_with fail
      refine (bad_is _ (badB_self _)).mono ?_
      rintro e w' ⟨rfl, rfl⟩
      go_wp2_with fail
      refine (num_is _ (numB_self _)).mono ?_
      rintro e w' ⟨rfl, rfl⟩
      go_wp2_with fail
      refine (num_is _ (numB_self _)).mono ?_
      rintro e w' ⟨rfl, rfl⟩
      go_wp2_with fail
      refine (lives_is _).mono ?_
      rintro e w1 ⟨rfl, hbl⟩
      have HB := Kp.mk (HB.out.trans (hbl.mono HB.out.size))
      clear hbl
      go_wp2_with fail
      go_ret
      exact ⟨rfl, HB.out⟩
end Go.Proofs.Ytabhfpfnaaihjaa
