/-
  DERIVED. circalaw04's lives (the chapter's examples), given the contracts of package years. Written by mkyrlives.py.
-/
import Derived.Test.YtdjcpobnbjeohaaDoorYrLaws
import Derived.Test.YtdjcpobnbjeohaaDoorNums
namespace Go.Proofs.YtdjcpobnbjeohaaDoor
open Go.RowKit

structure Two (w : World) (g h : Nat) (l m : List Int) (W : World) : Prop where
  a : Nums w g l W
  b : Nums w h m W
theorem Two.step {w W W' : World} {g h : Nat} {l m : List Int} (x : Two w g h l m W) (hb : Below W.heap.size W W') : Two w g h l m W' := ⟨x.a.step hb, x.b.step hb⟩
set_option maxRecDepth 100000 in
set_option maxHeartbeats 4000000 in
theorem lives_of {I : World → Prop} (C : YearCore I) (w : World) (hI : I w) : Calls Tryd.prog 14 #[] w fun e w' => e = .returned (.bool true) ∧ Below w.heap.size w w' := by
  have HC := Kp.mk C
  have HK := Kp.mk (nums_new (w := w) (W := w) [0, 1900, 2000, (-4), (-100)] 2 (Below.refl _ _))
  simp only [List.map_cons, List.map_nil] at HK
  have HI := Kp.mk (fun (v : World) (h : Below w.heap.size w v) => C.keep hI h)
  clear C hI
  go_enter Tryd.func14, Tryd.ntmps14
  go_wp2_with fail
  generalize w.alloc (.cells #[Value.int .i64 0, Value.int .i64 1900, Value.int .i64 2000, Value.int .i64 (-4), Value.int .i64 (-100)] 2) = w0 at *
  generalize hg : w.heap.size = g at HK ⊢
  go_loopw [2] (fun i wr => ∃ k : Nat, k ≤ 5 ∧ i = .int .i64 k ∧ Kp (Nums w g [0, 1900, 2000, (-4), (-100)] wr)) (fun i _ => 5 - (intOf i).toNat)
  case atStart => exact ⟨0, by omega, rfl, HK⟩
  case round =>
    obtain ⟨k, hk, rfl, HB⟩ := hrel
    by_cases hlt : k < 5
    · rcases (show k = 0 ∨ k = 1 ∨ k = 2 ∨ k = 3 ∨ k = 4 by omega) with rfl | rfl | rfl | rfl | rfl
      · have c1 : wr.cell? ⟨g, 0, none⟩ = some (Value.int .i64 0) := HB.out.ints 0 (by decide)
        clear hlt hk
        go_wp2_with fail
        refine (HC.out.leap_in (y := 0) (b := true) _ (HI.out _ HB.out.below) (by decide) (by decide) (by decide) (by decide)).mono ?_
        rintro e w' ⟨rfl, hbl⟩
        have HB := Kp.mk (HB.out.step hbl)
        clear hbl
        go_wp2_with fail
        go_roundw
        case rel =>
          first
            | exact ⟨1, by omega, rfl, HB⟩
            | ((repeat apply Exists.intro); exact ⟨⟨1, by omega, rfl, HB⟩, rfl⟩)
        case measure => simp [intOf]
      · have c1 : wr.cell? ⟨g, 1, none⟩ = some (Value.int .i64 1900) := HB.out.ints 1 (by decide)
        clear hlt hk
        go_wp2_with fail
        refine (HC.out.leap_in (y := 1900) (b := false) _ (HI.out _ HB.out.below) (by decide) (by decide) (by decide) (by decide)).mono ?_
        rintro e w' ⟨rfl, hbl⟩
        have HB := Kp.mk (HB.out.step hbl)
        clear hbl
        go_wp2_with fail
        go_roundw
        case rel =>
          first
            | exact ⟨2, by omega, rfl, HB⟩
            | ((repeat apply Exists.intro); exact ⟨⟨2, by omega, rfl, HB⟩, rfl⟩)
        case measure => simp [intOf]
      · have c1 : wr.cell? ⟨g, 2, none⟩ = some (Value.int .i64 2000) := HB.out.ints 2 (by decide)
        clear hlt hk
        go_wp2_with fail
        refine (HC.out.leap_in (y := 2000) (b := true) _ (HI.out _ HB.out.below) (by decide) (by decide) (by decide) (by decide)).mono ?_
        rintro e w' ⟨rfl, hbl⟩
        have HB := Kp.mk (HB.out.step hbl)
        clear hbl
        go_wp2_with fail
        go_roundw
        case rel =>
          first
            | exact ⟨3, by omega, rfl, HB⟩
            | ((repeat apply Exists.intro); exact ⟨⟨3, by omega, rfl, HB⟩, rfl⟩)
        case measure => simp [intOf]
      · have c1 : wr.cell? ⟨g, 3, none⟩ = some (Value.int .i64 (-4)) := HB.out.ints 3 (by decide)
        clear hlt hk
        go_wp2_with fail
        refine (HC.out.leap_in (y := (-4)) (b := true) _ (HI.out _ HB.out.below) (by decide) (by decide) (by decide) (by decide)).mono ?_
        rintro e w' ⟨rfl, hbl⟩
        have HB := Kp.mk (HB.out.step hbl)
        clear hbl
        go_wp2_with fail
        go_roundw
        case rel =>
          first
            | exact ⟨4, by omega, rfl, HB⟩
            | ((repeat apply Exists.intro); exact ⟨⟨4, by omega, rfl, HB⟩, rfl⟩)
        case measure => simp [intOf]
      · have c1 : wr.cell? ⟨g, 4, none⟩ = some (Value.int .i64 (-100)) := HB.out.ints 4 (by decide)
        clear hlt hk
        go_wp2_with fail
        refine (HC.out.leap_in (y := (-100)) (b := false) _ (HI.out _ HB.out.below) (by decide) (by decide) (by decide) (by decide)).mono ?_
        rintro e w' ⟨rfl, hbl⟩
        have HB := Kp.mk (HB.out.step hbl)
        clear hbl
        go_wp2_with fail
        go_roundw
        case rel =>
          first
            | exact ⟨5, by omega, rfl, HB⟩
            | ((repeat apply Exists.intro); exact ⟨⟨5, by omega, rfl, HB⟩, rfl⟩)
        case measure => simp [intOf]
    · obtain rfl : k = 5 := by omega
      have HB0 := Kp.mk (Bl.mk HB.out.below)
      clear HB HK
      go_wp2_with fail
      have HT : Kp (Two w wr.heap.size (wr.heap.size + 1) [0, 1, (-1), 1970, 2000, 10000000000000000] [0, 366, (-365), 719528, 730485, 3652425000000000000] ((wr.alloc (.cells #[Value.int .i64 0, Value.int .i64 1, Value.int .i64 (-1), Value.int .i64 1970, Value.int .i64 2000, Value.int .i64 10000000000000000] 2)).alloc (.cells #[Value.int .i64 0, Value.int .i64 366, Value.int .i64 (-365), Value.int .i64 719528, Value.int .i64 730485, Value.int .i64 3652425000000000000] 2))) := Kp.mk (by
        have h1 := nums_new [0, 1, (-1), 1970, 2000, 10000000000000000] 2 HB0.out.below
        have h2 := nums_new [0, 366, (-365), 719528, 730485, 3652425000000000000] 2 h1.below
        rw [World.size_alloc] at h2
        exact ⟨h1.step ((Below.refl _ _).alloc (Nat.le_refl _) _), h2⟩)
      generalize (wr.alloc (.cells #[Value.int .i64 0, Value.int .i64 1, Value.int .i64 (-1), Value.int .i64 1970, Value.int .i64 2000, Value.int .i64 10000000000000000] 2)).alloc (.cells #[Value.int .i64 0, Value.int .i64 366, Value.int .i64 (-365), Value.int .i64 719528, Value.int .i64 730485, Value.int .i64 3652425000000000000] 2) = w2 at *
      generalize wr.heap.size + 1 = g2 at *
      generalize wr.heap.size = g1 at *
      clear HB0
      go_loopw [7] (fun i wr => ∃ k : Nat, k ≤ 6 ∧ i = .int .i64 k ∧ Kp (Two w g1 g2 [0, 1, (-1), 1970, 2000, 10000000000000000] [0, 366, (-365), 719528, 730485, 3652425000000000000] wr)) (fun i _ => 6 - (intOf i).toNat)
      case atStart => exact ⟨0, by omega, rfl, HT⟩
      case round =>
        obtain ⟨k, hk, rfl, HB⟩ := hrel
        by_cases hlt : k < 6
        · rcases (show k = 0 ∨ k = 1 ∨ k = 2 ∨ k = 3 ∨ k = 4 ∨ k = 5 by omega) with rfl | rfl | rfl | rfl | rfl | rfl
          · have c1 : wr.cell? ⟨g1, 0, none⟩ = some (Value.int .i64 0) := HB.out.a.ints 0 (by decide)
            clear hlt hk
            go_wp2_with fail
            refine (HC.out.start_in (y := 0) (v := 0) _ (HI.out _ HB.out.a.below) (by decide) (by decide) (by decide) (by decide)).mono ?_
            rintro e w' ⟨rfl, hbl⟩
            have HB := Kp.mk (HB.out.step hbl)
            clear hbl
            have c2 : w'.cell? ⟨g2, 0, none⟩ = some (Value.int .i64 0) := HB.out.b.ints 0 (by decide)
            go_wp2_with fail
            refine (num_is _ (numB_self _)).mono ?_
            rintro e w' ⟨rfl, rfl⟩
            go_wp2_with fail
            go_roundw
            case rel =>
              first
                | exact ⟨1, by omega, rfl, HB⟩
                | ((repeat apply Exists.intro); exact ⟨⟨1, by omega, rfl, HB⟩, rfl⟩)
            case measure => simp [intOf]
          · have c1 : wr.cell? ⟨g1, 1, none⟩ = some (Value.int .i64 1) := HB.out.a.ints 1 (by decide)
            clear hlt hk
            go_wp2_with fail
            refine (HC.out.start_in (y := 1) (v := 366) _ (HI.out _ HB.out.a.below) (by decide) (by decide) (by decide) (by decide)).mono ?_
            rintro e w' ⟨rfl, hbl⟩
            have HB := Kp.mk (HB.out.step hbl)
            clear hbl
            have c2 : w'.cell? ⟨g2, 1, none⟩ = some (Value.int .i64 366) := HB.out.b.ints 1 (by decide)
            go_wp2_with fail
            refine (num_is _ (numB_self _)).mono ?_
            rintro e w' ⟨rfl, rfl⟩
            go_wp2_with fail
            go_roundw
            case rel =>
              first
                | exact ⟨2, by omega, rfl, HB⟩
                | ((repeat apply Exists.intro); exact ⟨⟨2, by omega, rfl, HB⟩, rfl⟩)
            case measure => simp [intOf]
          · have c1 : wr.cell? ⟨g1, 2, none⟩ = some (Value.int .i64 (-1)) := HB.out.a.ints 2 (by decide)
            clear hlt hk
            go_wp2_with fail
            refine (HC.out.start_in (y := (-1)) (v := (-365)) _ (HI.out _ HB.out.a.below) (by decide) (by decide) (by decide) (by decide)).mono ?_
            rintro e w' ⟨rfl, hbl⟩
            have HB := Kp.mk (HB.out.step hbl)
            clear hbl
            have c2 : w'.cell? ⟨g2, 2, none⟩ = some (Value.int .i64 (-365)) := HB.out.b.ints 2 (by decide)
            go_wp2_with fail
            refine (num_is _ (numB_self _)).mono ?_
            rintro e w' ⟨rfl, rfl⟩
            go_wp2_with fail
            go_roundw
            case rel =>
              first
                | exact ⟨3, by omega, rfl, HB⟩
                | ((repeat apply Exists.intro); exact ⟨⟨3, by omega, rfl, HB⟩, rfl⟩)
            case measure => simp [intOf]
          · have c1 : wr.cell? ⟨g1, 3, none⟩ = some (Value.int .i64 1970) := HB.out.a.ints 3 (by decide)
            clear hlt hk
            go_wp2_with fail
            refine (HC.out.start_in (y := 1970) (v := 719528) _ (HI.out _ HB.out.a.below) (by decide) (by decide) (by decide) (by decide)).mono ?_
            rintro e w' ⟨rfl, hbl⟩
            have HB := Kp.mk (HB.out.step hbl)
            clear hbl
            have c2 : w'.cell? ⟨g2, 3, none⟩ = some (Value.int .i64 719528) := HB.out.b.ints 3 (by decide)
            go_wp2_with fail
            refine (num_is _ (numB_self _)).mono ?_
            rintro e w' ⟨rfl, rfl⟩
            go_wp2_with fail
            go_roundw
            case rel =>
              first
                | exact ⟨4, by omega, rfl, HB⟩
                | ((repeat apply Exists.intro); exact ⟨⟨4, by omega, rfl, HB⟩, rfl⟩)
            case measure => simp [intOf]
          · have c1 : wr.cell? ⟨g1, 4, none⟩ = some (Value.int .i64 2000) := HB.out.a.ints 4 (by decide)
            clear hlt hk
            go_wp2_with fail
            refine (HC.out.start_in (y := 2000) (v := 730485) _ (HI.out _ HB.out.a.below) (by decide) (by decide) (by decide) (by decide)).mono ?_
            rintro e w' ⟨rfl, hbl⟩
            have HB := Kp.mk (HB.out.step hbl)
            clear hbl
            have c2 : w'.cell? ⟨g2, 4, none⟩ = some (Value.int .i64 730485) := HB.out.b.ints 4 (by decide)
            go_wp2_with fail
            refine (num_is _ (numB_self _)).mono ?_
            rintro e w' ⟨rfl, rfl⟩
            go_wp2_with fail
            go_roundw
            case rel =>
              first
                | exact ⟨5, by omega, rfl, HB⟩
                | ((repeat apply Exists.intro); exact ⟨⟨5, by omega, rfl, HB⟩, rfl⟩)
            case measure => simp [intOf]
          · have c1 : wr.cell? ⟨g1, 5, none⟩ = some (Value.int .i64 10000000000000000) := HB.out.a.ints 5 (by decide)
            clear hlt hk
            go_wp2_with fail
            refine (HC.out.start_in (y := 10000000000000000) (v := 3652425000000000000) _ (HI.out _ HB.out.a.below) (by decide) (by decide) (by decide) (by decide)).mono ?_
            rintro e w' ⟨rfl, hbl⟩
            have HB := Kp.mk (HB.out.step hbl)
            clear hbl
            have c2 : w'.cell? ⟨g2, 5, none⟩ = some (Value.int .i64 3652425000000000000) := HB.out.b.ints 5 (by decide)
            go_wp2_with fail
            refine (num_is _ (numB_self _)).mono ?_
            rintro e w' ⟨rfl, rfl⟩
            go_wp2_with fail
            go_roundw
            case rel =>
              first
                | exact ⟨6, by omega, rfl, HB⟩
                | ((repeat apply Exists.intro); exact ⟨⟨6, by omega, rfl, HB⟩, rfl⟩)
            case measure => simp [intOf]
        · obtain rfl : k = 6 := by omega
          have HB := Kp.mk (Bl.mk HB.out.a.below)
          go_wp2_with fail
          refine (HC.out.end_in (y := 1999) (v := 730484) _ (HI.out _ HB.out.below) (by decide) (by decide) (by decide) (by decide)).mono ?_
          rintro e w' ⟨rfl, hbl⟩
          have HB := Kp.mk (HB.out.step hbl)
          clear hbl
          go_wp2_with fail
          refine (HC.out.of_in (d := 730484) (y := 1999) _ (HI.out _ HB.out.below) (by decide) (by decide) (by unfold YearHas; decide) (by decide)).mono ?_
          rintro e w' ⟨rfl, hbl⟩
          have HB := Kp.mk (HB.out.step hbl)
          clear hbl
          go_wp2_with fail
          refine (HC.out.of_in (d := (-1)) (y := (-1)) _ (HI.out _ HB.out.below) (by decide) (by decide) (by unfold YearHas; decide) (by decide)).mono ?_
          rintro e w' ⟨rfl, hbl⟩
          have HB := Kp.mk (HB.out.step hbl)
          clear hbl
          go_wp2_with fail
          refine (HC.out.of_in (d := 0) (y := 0) _ (HI.out _ HB.out.below) (by decide) (by decide) (by unfold YearHas; decide) (by decide)).mono ?_
          rintro e w' ⟨rfl, hbl⟩
          have HB := Kp.mk (HB.out.step hbl)
          clear hbl
          go_wp2_with fail
          refine (num_is _ (numB_self _)).mono ?_
          rintro e w' ⟨rfl, rfl⟩
          go_wp2_with fail
          refine (num_is _ (numB_self _)).mono ?_
          rintro e w' ⟨rfl, rfl⟩
          go_wp2_with fail
          refine (num_is _ (numB_self _)).mono ?_
          rintro e w' ⟨rfl, rfl⟩
          go_wp2_with fail
          refine (num_is _ (numB_self _)).mono ?_
          rintro e w' ⟨rfl, rfl⟩
          go_wp2_with fail
          refine (HC.out.leaps_in (a := 1) (b := 400) (v := 97) _ (HI.out _ HB.out.below) (by decide) (by decide) (by decide) (by decide) (by decide) (by decide) (by decide)).mono ?_
          rintro e w' ⟨rfl, hbl⟩
          have HB := Kp.mk (HB.out.step hbl)
          clear hbl
          go_wp2_with fail
          refine (HC.out.leaps_in (a := (-4)) (b := 4) (v := 3) _ (HI.out _ HB.out.below) (by decide) (by decide) (by decide) (by decide) (by decide) (by decide) (by decide)).mono ?_
          rintro e w' ⟨rfl, hbl⟩
          have HB := Kp.mk (HB.out.step hbl)
          clear hbl
          go_wp2_with fail
          refine (HC.out.leaps_in (a := 5) (b := 4) (v := 0) _ (HI.out _ HB.out.below) (by decide) (by decide) (by decide) (by decide) (by decide) (by decide) (by decide)).mono ?_
          rintro e w' ⟨rfl, hbl⟩
          have HB := Kp.mk (HB.out.step hbl)
          clear hbl
          go_wp2_with fail
          refine (HC.out.end_in (y := 10000000000000000) (v := 3652425000000000365) _ (HI.out _ HB.out.below) (by decide) (by decide) (by decide) (by decide)).mono ?_
          rintro e w' ⟨rfl, hbl⟩
          have HB := Kp.mk (HB.out.step hbl)
          clear hbl
          go_wp2_with fail
          refine (HC.out.start_out (y := 10000000000000001) _ (HI.out _ HB.out.below) (by decide) (by decide) (by decide)).mono ?_
          rintro e w' ⟨rfl, hbl⟩
          have HB := Kp.mk (HB.out.step hbl)
          clear hbl
          go_wp2_with fail
          refine (num_is _ (numB_self _)).mono ?_
          rintro e w' ⟨rfl, rfl⟩
          go_wp2_with fail
          refine (num_is _ (numB_self _)).mono ?_
          rintro e w' ⟨rfl, rfl⟩
          go_wp2_with fail
          refine (num_is _ (numB_self _)).mono ?_
          rintro e w' ⟨rfl, rfl⟩
          go_wp2_with fail
          refine (num_is _ (numB_self _)).mono ?_
          rintro e w' ⟨rfl, rfl⟩
          go_wp2_with fail
          refine (bad_is _ badB_self).mono ?_
          rintro e w' ⟨rfl, rfl⟩
          go_wp2_with fail
          go_ret
          exact ⟨rfl, HB.out.below⟩
end Go.Proofs.YtdjcpobnbjeohaaDoor
