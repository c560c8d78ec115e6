/-
  DERIVED. circalaw05's lives (the chapter's examples), given the contracts of package months. Written by mkmolives.py.
-/
import Derived.Test.YtnjhbecmdgjeaaaDoorMoLawsB
import Derived.Test.YtnjhbecmdgjeaaaDoorNums
import Derived.Deep.RegionHeld3
namespace Go.Proofs.YtnjhbecmdgjeaaaDoor
open Go.RowKit

structure Three (w : World) (g h k : Nat) (l m n : List Int) (W : World) : Prop where
  a : Nums w g l W
  b : Nums w h m W
  c : Nums w k n W
theorem Three.step {w W W' : World} {g h k : Nat} {l m n : List Int} (x : Three w g h k l m n W) (hb : Below W.heap.size W W') : Three w g h k l m n W' := ⟨x.a.step hb, x.b.step hb, x.c.step hb⟩
set_option maxRecDepth 100000 in
set_option maxHeartbeats 3000000 in
theorem lives_of {I : World → Prop} (C : MonthCore I) (w : World) (hI : I w) : Calls Tryd.prog 13 #[] w fun e w' => e = .returned (.bool true) ∧ Below w.heap.size w w' := by
  have HI := Kp.mk (fun (v : World) (h : Below w.heap.size w v) => C.keep hI h)
  clear hI
  have HC := Kp.mk C
  clear C
  have HT : Kp (Three w w.heap.size (w.heap.size + 1) (w.heap.size + 1 + 1) [2000, 1900, 2001] [2, 2, 9] [29, 28, 30] (((w.alloc (.cells #[Value.int .i64 2000, Value.int .i64 1900, Value.int .i64 2001] 2)).alloc (.cells #[Value.int .i64 2, Value.int .i64 2, Value.int .i64 9] 3)).alloc (.cells #[Value.int .i64 29, Value.int .i64 28, Value.int .i64 30] 3))) := Kp.mk (by
    have h1 := nums_new [2000, 1900, 2001] 2 (Below.refl w.heap.size w)
    have h2 := nums_new [2, 2, 9] 3 h1.below
    have h3 := nums_new [29, 28, 30] 3 h2.below
    rw [World.size_alloc] at h2
    rw [World.size_alloc, World.size_alloc] at h3
    have s1 := (Below.refl (w.alloc (.cells #[Value.int .i64 2000, Value.int .i64 1900, Value.int .i64 2001] 2)).heap.size (w.alloc (.cells #[Value.int .i64 2000, Value.int .i64 1900, Value.int .i64 2001] 2))).alloc (Nat.le_refl _) (.cells #[Value.int .i64 2, Value.int .i64 2, Value.int .i64 9] 3)
    have s2 := (Below.refl ((w.alloc (.cells #[Value.int .i64 2000, Value.int .i64 1900, Value.int .i64 2001] 2)).alloc (.cells #[Value.int .i64 2, Value.int .i64 2, Value.int .i64 9] 3)).heap.size ((w.alloc (.cells #[Value.int .i64 2000, Value.int .i64 1900, Value.int .i64 2001] 2)).alloc (.cells #[Value.int .i64 2, Value.int .i64 2, Value.int .i64 9] 3))).alloc (Nat.le_refl _) (.cells #[Value.int .i64 29, Value.int .i64 28, Value.int .i64 30] 3)
    exact ⟨(h1.step s1).step s2, h2.step s2, h3⟩)
  go_enter Tryd.func13, Tryd.ntmps13
  go_wp2_with fail
  generalize ((w.alloc (.cells #[Value.int .i64 2000, Value.int .i64 1900, Value.int .i64 2001] 2)).alloc (.cells #[Value.int .i64 2, Value.int .i64 2, Value.int .i64 9] 3)).alloc (.cells #[Value.int .i64 29, Value.int .i64 28, Value.int .i64 30] 3) = w0 at *
  generalize hg3 : w.heap.size + 1 + 1 = g3 at HT ⊢
  generalize hg2 : w.heap.size + 1 = g2 at HT ⊢
  generalize hg1 : w.heap.size = g1 at HT ⊢
  go_loopw [4] (fun i wr => ∃ k : Nat, k ≤ 3 ∧ i = .int .i64 k ∧ Kp (Three w g1 g2 g3 [2000, 1900, 2001] [2, 2, 9] [29, 28, 30] wr)) (fun i _ => 3 - (intOf i).toNat)
  case atStart => exact ⟨0, by omega, rfl, HT⟩
  case round =>
    obtain ⟨k, hk, rfl, HB⟩ := hrel
    by_cases hlt : k < 3
    · rcases (show k = 0 ∨ k = 1 ∨ k = 2 by omega) with rfl | rfl | rfl
      · have c1 : wr.cell? ⟨g1, 0, none⟩ = some (Value.int .i64 2000) := HB.out.a.ints 0 (by decide)
        have c2 : wr.cell? ⟨g2, 0, none⟩ = some (Value.int .i64 2) := HB.out.b.ints 0 (by decide)
        have HBd := Kp.mk (HB.out.step ((Below.refl wr.heap.size wr).drew))
        clear hlt hk
        go_upto_region 5 with fail
        go_region_held3 (fun w' => w'.cell? ⟨g1, 0, none⟩ = some (Value.int .i64 2000) ∧ w'.cell? ⟨g2, 0, none⟩ = some (Value.int .i64 2)) (first | go_keep | exact ⟨ka1, ka2⟩)
          ((go_at_call 8; (with_reducible show Calls _ _ _ wr.drew _); refine (HC.out.len_in (y := 2000) (m := 2) (v := 29) _ (HI.out _ HBd.out.a.below) (by decide) (by decide) (by decide) (by decide) (by decide) (by decide)).mono ?_; rintro e wa ⟨rfl, hb⟩; have HBa := Kp.mk (HBd.out.step hb); have ka1 : wa.cell? ⟨g1, 0, none⟩ = some (Value.int .i64 2000) := HBa.out.a.ints 0 (by decide); have ka2 : wa.cell? ⟨g2, 0, none⟩ = some (Value.int .i64 2) := HBa.out.b.ints 0 (by decide); clear hb))
        have c3 : wa.cell? ⟨g3, 0, none⟩ = some (Value.int .i64 29) := HBa.out.c.ints 0 (by decide)
        go_wp2_with fail
        go_roundw
        case rel =>
          first
            | exact ⟨1, by omega, rfl, HBa⟩
            | ((repeat apply Exists.intro); exact ⟨⟨1, by omega, rfl, HBa⟩, rfl⟩)
        case measure => simp [intOf]
      · have c1 : wr.cell? ⟨g1, 1, none⟩ = some (Value.int .i64 1900) := HB.out.a.ints 1 (by decide)
        have c2 : wr.cell? ⟨g2, 1, none⟩ = some (Value.int .i64 2) := HB.out.b.ints 1 (by decide)
        have HBd := Kp.mk (HB.out.step ((Below.refl wr.heap.size wr).drew))
        clear hlt hk
        go_upto_region 5 with fail
        go_region_held3 (fun w' => w'.cell? ⟨g1, 1, none⟩ = some (Value.int .i64 1900) ∧ w'.cell? ⟨g2, 1, none⟩ = some (Value.int .i64 2)) (first | go_keep | exact ⟨ka1, ka2⟩)
          ((go_at_call 8; (with_reducible show Calls _ _ _ wr.drew _); refine (HC.out.len_in (y := 1900) (m := 2) (v := 28) _ (HI.out _ HBd.out.a.below) (by decide) (by decide) (by decide) (by decide) (by decide) (by decide)).mono ?_; rintro e wa ⟨rfl, hb⟩; have HBa := Kp.mk (HBd.out.step hb); have ka1 : wa.cell? ⟨g1, 1, none⟩ = some (Value.int .i64 1900) := HBa.out.a.ints 1 (by decide); have ka2 : wa.cell? ⟨g2, 1, none⟩ = some (Value.int .i64 2) := HBa.out.b.ints 1 (by decide); clear hb))
        have c3 : wa.cell? ⟨g3, 1, none⟩ = some (Value.int .i64 28) := HBa.out.c.ints 1 (by decide)
        go_wp2_with fail
        go_roundw
        case rel =>
          first
            | exact ⟨2, by omega, rfl, HBa⟩
            | ((repeat apply Exists.intro); exact ⟨⟨2, by omega, rfl, HBa⟩, rfl⟩)
        case measure => simp [intOf]
      · have c1 : wr.cell? ⟨g1, 2, none⟩ = some (Value.int .i64 2001) := HB.out.a.ints 2 (by decide)
        have c2 : wr.cell? ⟨g2, 2, none⟩ = some (Value.int .i64 9) := HB.out.b.ints 2 (by decide)
        have HBd := Kp.mk (HB.out.step ((Below.refl wr.heap.size wr).drew))
        clear hlt hk
        go_upto_region 5 with fail
        go_region_held3 (fun w' => w'.cell? ⟨g1, 2, none⟩ = some (Value.int .i64 2001) ∧ w'.cell? ⟨g2, 2, none⟩ = some (Value.int .i64 9)) (first | go_keep | exact ⟨ka1, ka2⟩)
          ((go_at_call 8; (with_reducible show Calls _ _ _ wr.drew _); refine (HC.out.len_in (y := 2001) (m := 9) (v := 30) _ (HI.out _ HBd.out.a.below) (by decide) (by decide) (by decide) (by decide) (by decide) (by decide)).mono ?_; rintro e wa ⟨rfl, hb⟩; have HBa := Kp.mk (HBd.out.step hb); have ka1 : wa.cell? ⟨g1, 2, none⟩ = some (Value.int .i64 2001) := HBa.out.a.ints 2 (by decide); have ka2 : wa.cell? ⟨g2, 2, none⟩ = some (Value.int .i64 9) := HBa.out.b.ints 2 (by decide); clear hb))
        have c3 : wa.cell? ⟨g3, 2, none⟩ = some (Value.int .i64 30) := HBa.out.c.ints 2 (by decide)
        go_wp2_with fail
        go_roundw
        case rel =>
          first
            | exact ⟨3, by omega, rfl, HBa⟩
            | ((repeat apply Exists.intro); exact ⟨⟨3, by omega, rfl, HBa⟩, rfl⟩)
        case measure => simp [intOf]
    · obtain rfl : k = 3 := by omega
      have HB := Kp.mk (Bl.mk HB.out.a.below)
      go_wp2_with fail
      refine (HC.out.start_in (y := 0) (m := 3) (v := 60) _ (HI.out _ HB.out.below) (by decide) (by decide) (by decide) (by decide) (by decide) (by decide)).mono ?_
      rintro e w' ⟨rfl, hbl⟩
      have HB := Kp.mk (HB.out.step hbl)
      clear hbl
      go_wp2_with fail
      refine (HC.out.end_in (y := 0) (m := 2) (v := 59) _ (HI.out _ HB.out.below) (by decide) (by decide) (by decide) (by decide) (by decide) (by decide)).mono ?_
      rintro e w' ⟨rfl, hbl⟩
      have HB := Kp.mk (HB.out.step hbl)
      clear hbl
      go_wp2_with fail
      refine (HC.out.start_in (y := 1970) (m := 12) (v := 719862) _ (HI.out _ HB.out.below) (by decide) (by decide) (by decide) (by decide) (by decide) (by decide)).mono ?_
      rintro e w' ⟨rfl, hbl⟩
      have HB := Kp.mk (HB.out.step hbl)
      clear hbl
      go_wp2_with fail
      refine (num_is _ (numB_self _)).mono ?_
      rintro e w' ⟨rfl, rfl⟩
      go_wp2_with fail
      refine (num_is _ (numB_self _)).mono ?_
      rintro e w' ⟨rfl, rfl⟩
      go_wp2_with fail
      refine (num_is _ (numB_self _)).mono ?_
      rintro e w' ⟨rfl, rfl⟩
      go_wp2_with fail
      refine (HC.out.of_in (d := 59) (y := 0) (m := 2) _ (HI.out _ HB.out.below) (by decide) (by decide) (by decide) ⟨by decide, by decide, by decide, by decide⟩).mono ?_
      rintro e w' ⟨rfl, hbl⟩
      have HB := Kp.mk (HB.out.step hbl)
      clear hbl
      go_wp2_with fail
      refine (HC.out.of_in (d := 60) (y := 0) (m := 3) _ (HI.out _ HB.out.below) (by decide) (by decide) (by decide) ⟨by decide, by decide, by decide, by decide⟩).mono ?_
      rintro e w' ⟨rfl, hbl⟩
      have HB := Kp.mk (HB.out.step hbl)
      clear hbl
      go_wp2_with fail
      refine (HC.out.of_in (d := (-1)) (y := (-1)) (m := 12) _ (HI.out _ HB.out.below) (by decide) (by decide) (by decide) ⟨by decide, by decide, by decide, by decide⟩).mono ?_
      rintro e w' ⟨rfl, hbl⟩
      have HB := Kp.mk (HB.out.step hbl)
      clear hbl
      go_wp2_with fail
      refine (month_is _ _ _).mono ?_
      rintro e w' ⟨rfl, rfl⟩
      go_wp2_with fail
      refine (month_is _ _ _).mono ?_
      rintro e w' ⟨rfl, rfl⟩
      go_wp2_with fail
      refine (month_is _ _ _).mono ?_
      rintro e w' ⟨rfl, rfl⟩
      go_wp2_with fail
      refine (HC.out.add_in (y := 1999) (m := 11) (k := 3) (z := 2000) (n := 2) _ (HI.out _ HB.out.below) (by decide) (by decide) (by decide) (by decide) (by decide) (by decide) (by decide) (by decide) (by decide) (by decide)).mono ?_
      rintro e w' ⟨rfl, hbl⟩
      have HB := Kp.mk (HB.out.step hbl)
      clear hbl
      go_wp2_with fail
      refine (HC.out.add_in (y := 2000) (m := 1) (k := (-1)) (z := 1999) (n := 12) _ (HI.out _ HB.out.below) (by decide) (by decide) (by decide) (by decide) (by decide) (by decide) (by decide) (by decide) (by decide) (by decide)).mono ?_
      rintro e w' ⟨rfl, hbl⟩
      have HB := Kp.mk (HB.out.step hbl)
      clear hbl
      go_wp2_with fail
      refine (HC.out.add_no (y := 10000000000000000) (m := 12) (k := 1) _ (HI.out _ HB.out.below) (by decide) (by decide) (by decide) (by decide) (by decide) (by decide) (by decide) (by decide)).mono ?_
      rintro e w' ⟨rfl, hbl⟩
      have HB := Kp.mk (HB.out.step hbl)
      clear hbl
      go_wp2_with fail
      refine (month_is _ _ _).mono ?_
      rintro e w' ⟨rfl, rfl⟩
      go_wp2_with fail
      refine (month_is _ _ _).mono ?_
      rintro e w' ⟨rfl, rfl⟩
      go_wp2_with fail
      refine (HC.out.between_in (y := 1999) (m := 11) (z := 2000) (n := 2) (v := 3) _ (HI.out _ HB.out.below) (by decide) (by decide) (by decide) (by decide) (by decide) (by decide) (by decide) (by decide) (by decide) (by decide) (by decide)).mono ?_
      rintro e w' ⟨rfl, hbl⟩
      have HB := Kp.mk (HB.out.step hbl)
      clear hbl
      go_wp2_with fail
      refine (HC.out.between_in (y := 5) (m := 1) (z := 4) (n := 12) (v := (-1)) _ (HI.out _ HB.out.below) (by decide) (by decide) (by decide) (by decide) (by decide) (by decide) (by decide) (by decide) (by decide) (by decide) (by decide)).mono ?_
      rintro e w' ⟨rfl, hbl⟩
      have HB := Kp.mk (HB.out.step hbl)
      clear hbl
      go_wp2_with fail
      refine (num_is _ (numB_self _)).mono ?_
      rintro e w' ⟨rfl, rfl⟩
      go_wp2_with fail
      refine (num_is _ (numB_self _)).mono ?_
      rintro e w' ⟨rfl, rfl⟩
      go_wp2_with fail
      refine (HC.out.check (y := 1) (m := 13) (c := 7) _ (HI.out _ HB.out.below) (by decide) (by decide) (by decide) (by decide) (by decide)).mono ?_
      rintro e w' ⟨rfl, hbl⟩
      have HB := Kp.mk (HB.out.step hbl)
      clear hbl
      go_wp2_with fail
      refine (HC.out.check (y := 10000000000000001) (m := 13) (c := 6) _ (HI.out _ HB.out.below) (by decide) (by decide) (by decide) (by decide) (by decide)).mono ?_
      rintro e w' ⟨rfl, hbl⟩
      have HB := Kp.mk (HB.out.step hbl)
      clear hbl
      go_wp2_with fail
      go_ret
      exact ⟨rfl, HB.out.below⟩
end Go.Proofs.YtnjhbecmdgjeaaaDoor
