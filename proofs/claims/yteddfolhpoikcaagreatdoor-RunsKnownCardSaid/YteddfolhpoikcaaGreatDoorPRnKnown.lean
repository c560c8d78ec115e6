/-
 DERIVED. WALK of the closed law RunsKnown, given the contracts of package runs. Written by mkrn6.py.
-/
import Derived.Test.YteddfolhpoikcaaGreatDoorPRnPairs
import Derived.Test.YteddfolhpoikcaaGreatDoorPRnOne
import Derived.Test.YteddfolhpoikcaaGreatDoorPRnLaws
import Derived.Test.YteddfolhpoikcaaGreatDoorPRnRow
import Derived.Test.YteddfolhpoikcaaGreatDoorPHand
namespace Go.Proofs.YteddfolhpoikcaaGreatDoor
open Go.RowKit
set_option maxRecDepth 100000

def xL : List (Int × Int) := [((-1), 0), (0, (-9223372036854775808)), (0, (-9223372036854775807)), (0, (-1)), (0, 0), (0, 9223372036854775806), (0, 9223372036854775807), (1, 0), (3, 0)]
def runX (p : Nat) : Rn := ⟨efst xL (p / 9), esnd xL (p / 9), efst xL (p % 9), esnd xL (p % 9)⟩
theorem xL_in (j : Nat) : -9223372036854775808 ≤ esnd xL j ∧ esnd xL j ≤ 9223372036854775807 := by
 have key : ∀ j : Fin 9, -9223372036854775808 ≤ esnd xL j.1 ∧ esnd xL j.1 ≤ 9223372036854775807 := by decide +kernel
 by_cases h : j < 9
 ·exact key ⟨j, h⟩
 ·have : esnd xL j = 0 := by unfold esnd; rw [List.getD_eq_getElem?_getD, List.getElem?_eq_none (by show 9 ≤ j; omega)]; rfl
  omega
theorem runX_in (p : Nat) : (runX p).In := ⟨(xL_in _).1, (xL_in _).2, (xL_in _).1, (xL_in _).2⟩
theorem runX_at {a b : Nat} (hb : b < 9) : runX (a * 9 + b) = ⟨efst xL a, esnd xL a, efst xL b, esnd xL b⟩ := by
 unfold runX
 rw [show (a * 9 + b) / 9 = a by omega, show (a * 9 + b) % 9 = b by omega]
theorem ls_x {w W : World} (hb : Below w.heap.size w W) : Ls w W.heap.size xL (W.alloc (.cells #[.int .i8 (-1), .int .i64 0, .int .i8 0, .int .i64 (-9223372036854775808), .int .i8 0, .int .i64 (-9223372036854775807), .int .i8 0, .int .i64 (-1), .int .i8 0, .int .i64 0, .int .i8 0, .int .i64 9223372036854775806, .int .i8 0, .int .i64 9223372036854775807, .int .i8 1, .int .i64 0, .int .i8 3, .int .i64 0] 24)) := by
 refine ⟨hb.alloc hb.size _, by simp, fun j hj => ?_, fun j hj => ?_⟩
 ·rw [World.cell?_alloc_new]
  match j, hj with
  | 0, _ => rfl
  | 1, _ => rfl
  | 2, _ => rfl
  | 3, _ => rfl
  | 4, _ => rfl
  | 5, _ => rfl
  | 6, _ => rfl
  | 7, _ => rfl
  | 8, _ => rfl
  | j + 9, hj => exact absurd hj (by show ¬ j + 9 < 9; omega)
 ·rw [World.cell?_alloc_new]
  match j, hj with
  | 0, _ => rfl
  | 1, _ => rfl
  | 2, _ => rfl
  | 3, _ => rfl
  | 4, _ => rfl
  | 5, _ => rfl
  | 6, _ => rfl
  | 7, _ => rfl
  | 8, _ => rfl
  | j + 9, hj => exact absurd hj (by show ¬ j + 9 < 9; omega)
theorem lx_new (w : World) : Ls w (w.heap.size + 1 + 1 + 1 + 1) xL (((((w.alloc (.cells #[.int .i8 (-1), .int .i64 0] 24)).alloc (.cells #[.int .i8 1, .int .i64 0] 24)).alloc (.cells #[.int .i8 0, .int .i64 (-9223372036854775808)] 24)).alloc (.cells #[.int .i8 0, .int .i64 9223372036854775807] 24)).alloc (.cells #[.int .i8 (-1), .int .i64 0, .int .i8 0, .int .i64 (-9223372036854775808), .int .i8 0, .int .i64 (-9223372036854775807), .int .i8 0, .int .i64 (-1), .int .i8 0, .int .i64 0, .int .i8 0, .int .i64 9223372036854775806, .int .i8 0, .int .i64 9223372036854775807, .int .i8 1, .int .i64 0, .int .i8 3, .int .i64 0] 24)) := by
 have hb : Below w.heap.size w ((((w.alloc (.cells #[.int .i8 (-1), .int .i64 0] 24)).alloc (.cells #[.int .i8 1, .int .i64 0] 24)).alloc (.cells #[.int .i8 0, .int .i64 (-9223372036854775808)] 24)).alloc (.cells #[.int .i8 0, .int .i64 9223372036854775807] 24)) := ((((Below.refl w.heap.size w).alloc (Nat.le_refl _) _).alloc (by simp) _).alloc (by simp; omega) _).alloc (by simp; omega) _
 have hs : ((((w.alloc (.cells #[.int .i8 (-1), .int .i64 0] 24)).alloc (.cells #[.int .i8 1, .int .i64 0] 24)).alloc (.cells #[.int .i8 0, .int .i64 (-9223372036854775808)] 24)).alloc (.cells #[.int .i8 0, .int .i64 9223372036854775807] 24)).heap.size = w.heap.size + 1 + 1 + 1 + 1 := by simp
 have h := ls_x hb
 rw [hs] at h
 exact h
set_option maxHeartbeats 16000000 in
theorem lawKnown_any {I : World → Prop} (C : RunFns I) (w : World) (hI : I w) :
 Calls Tryz.prog 7 #[] w fun e w' => e = .returned (.bool true) ∧ Below w.heap.size w w' := by
 have HI := Kp.mk (fun (v : World) (h : Below w.heap.size w v) => C.keep hI h)
 clear hI
 have rl := Kp.mk (fun v (hw : Below w.heap.size w v) => C.lives v (HI.out v hw))
 have rpr := Kp.mk (fun (a b : Rn) (x : Int) (ha : a.In) (hb : b.In) (x0 : -9223372036854775808 ≤ x) (x1 : x ≤ 9223372036854775807) v (hw : Below w.heap.size w v) => lawPairs_any C a b x v (HI.out v hw) ha hb x0 x1)
 have ron := Kp.mk (fun (r : Rn) (k x y : Int) (hr : r.In) (hk : -9223372036854775808 ≤ k ∧ k ≤ 9223372036854775807) (hx : -9223372036854775808 ≤ x ∧ x ≤ 9223372036854775807) (hy : -9223372036854775808 ≤ y ∧ y ≤ 9223372036854775807) v (hw : Below w.heap.size w v) => lawOne_any C r k x y v (HI.out v hw) hr hk.1 hk.2 hx.1 hx.2 hy.1 hy.2)
 have rtx := Kp.mk (fun (r : Rn) (hr : r.In) v (hw : Below w.heap.size w v) => lawText_any C r v (HI.out v hw) hr)
 have rps := Kp.mk (fun (s : ByteArray) v (hw : Below w.heap.size w v) => lawParse_any C s v (HI.out v hw))
 have HX := Kp.mk (lx_new w)
 obtain ⟨i0, hi0, hz0, hz1, hz2⟩ := infoRn4
 have hxl : xL.length = 9 := rfl
 clear C
 go_enter Tryz.func7, Tryz.ntmps7
 go_upto_region 3 with fail
 generalize ((((w.alloc (.cells #[.int .i8 (-1), .int .i64 0] 24)).alloc (.cells #[.int .i8 1, .int .i64 0] 24)).alloc (.cells #[.int .i8 0, .int .i64 (-9223372036854775808)] 24)).alloc (.cells #[.int .i8 0, .int .i64 9223372036854775807] 24)).alloc (.cells #[.int .i8 (-1), .int .i64 0, .int .i8 0, .int .i64 (-9223372036854775808), .int .i8 0, .int .i64 (-9223372036854775807), .int .i8 0, .int .i64 (-1), .int .i8 0, .int .i64 0, .int .i8 0, .int .i64 9223372036854775806, .int .i8 0, .int .i64 9223372036854775807, .int .i8 1, .int .i64 0, .int .i8 3, .int .i64 0] 24) = w0 at *
 generalize w.heap.size + 1 + 1 + 1 + 1 = gx at *
 have HA := Kp.mk (ap_new w0 runX)
 go_wp2_with fail
 go_loopw [6, 7, 8] (fun l i _ wr => ∃ (a : Nat) (v : Value), a ≤ 9 ∧ i = .int .i64 (a : Int) ∧ v = l ∧ Kp (Ap w0 runX (a * 9) v wr)) (fun _ i _ _ => 9 - (intOf i).toNat)
 case atStart => exact ⟨0, _, by omega, rfl, rfl, HA⟩
 case round =>
  obtain ⟨a, v, ha, rfl, rfl, HA⟩ := hrel
  by_cases ha9 : a < 9
  ·have t1 : decide ((a : Int) < 9) = true := decide_eq_true (by omega)
   have b1 : (a : Int) < 9 := by omega
   have wa : IntKind.i64.wrap ((a : Int) + 1) = (a : Int) + 1 := IntWalk.i64_in _ (by omega)
   go_wp2_with fail
   clear t1
   go_loopw [6, 8] (fun l k wr => ∃ (b : Nat) (v : Value), b ≤ 9 ∧ k = .int .i64 (b : Int) ∧ v = l ∧ Kp (Ap w0 runX (a * 9 + b) v wr)) (fun _ k _ => 9 - (intOf k).toNat)
   case atStart => exact ⟨0, _, by omega, rfl, rfl, HA⟩
   case round =>
    obtain ⟨b, v, hb, rfl, rfl, HA⟩ := hrel
    by_cases hb9 : b < 9
    ·have t2 : decide ((b : Int) < 9) = true := decide_eq_true (by omega)
     have b2 : (b : Int) < 9 := by omega
     have wb : IntKind.i64.wrap ((b : Int) + 1) = (b : Int) + 1 := IntWalk.i64_in _ (by omega)
     have HC := Kp.mk (fun (W : World) (hW : Below w0.heap.size w0 W) => And.intro ((HX.out.step hW).fst a (by rw [hxl]; exact ha9)) (And.intro ((HX.out.step hW).snd a (by rw [hxl]; exact ha9)) (And.intro ((HX.out.step hW).fst b (by rw [hxl]; exact hb9)) ((HX.out.step hW).snd b (by rw [hxl]; exact hb9)))))
     have HF := Kp.mk (runX_at (a := a) hb9)
     obtain ⟨nn, hnn⟩ : ∃ nn, a * 9 + b = nn := ⟨_, rfl⟩
     rw [hnn] at HA HF
     have hle : nn ≤ 81 := by omega
     have HN := Kp.mk hnn
     generalize efst xL a = f1 at *
     generalize esnd xL a = d1 at *
     generalize efst xL b = f2 at *
     generalize esnd xL b = d2 at *
     go_upto_region 10 with fail
     have HA := Kp.mk (HA.out.step (Below.refl wr.heap.size wr).drew)
     refine wp_region_held_drew (S := fun w' => w'.cell? ⟨gx, a * 2, none⟩ = some (.int .i8 f1) ∧ w'.cell? ⟨gx, a * 2 + 1, none⟩ = some (.int .i64 d1) ∧ w'.cell? ⟨gx, b * 2, none⟩ = some (.int .i8 f2) ∧ w'.cell? ⟨gx, b * 2 + 1, none⟩ = some (.int .i64 d2)) (by kernel_rfl) (HC.out _ HA.out.below) (fun hH => ?_)
     generalize wr.drew = vz at *
     refine tk 0 ?_ rfl hH ?_ ?_
     rotate_left
     ·(intro w hSw; (try dsimp only at hSw); go_simp; try with_reducible rfl)
     try simp only [pt]
     refine tk 1 ?_ rfl hH ?_ ?_
     rotate_left
     ·(intro w hSw; (try dsimp only at hSw); go_simp; try with_reducible rfl)
     try simp only [pt]
     refine tk 2 ?_ rfl hH ?_ ?_
     rotate_left
     ·(intro w hSw; (try dsimp only at hSw); go_simp; try with_reducible rfl)
     try simp only [pt]
     refine tk 3 ?_ rfl hH ?_ ?_
     rotate_left
     ·(intro w hSw; (try dsimp only at hSw); go_simp; try with_reducible rfl)
     try simp only [pt]
     refine tk 4 ?_ rfl hH ?_ ?_
     rotate_left
     ·(intro w hSw; (try dsimp only at hSw); go_simp; try with_reducible rfl)
     try simp only [pt]
     refine tk 5 ?_ rfl hH ?_ ?_
     rotate_left
     ·(intro w hSw; (try dsimp only at hSw); go_simp; try with_reducible rfl)
     try simp only [pt]
     refine tk 6 ?_ rfl hH ?_ ?_
     rotate_left
     ·(intro w hSw; (try dsimp only at hSw); go_simp; try with_reducible rfl)
     try simp only [pt]
     refine tk 7 ?_ rfl hH ?_ ?_
     rotate_left
     ·(intro w hSw; (try dsimp only at hSw); go_simp; try with_reducible rfl)
     try simp only [pt]
     refine tk 8 ?_ rfl hH ?_ ?_
     rotate_left
     ·(intro w hSw; (try dsimp only at hSw); go_simp; try with_reducible rfl)
     try simp only [pt]
     refine tk 9 ?_ rfl hH ?_ ?_
     rotate_left
     ·(intro w hSw; (try dsimp only at hSw); go_simp; try with_reducible rfl)
     try simp only [pt]
     refine rd [10] ?_
     refine .cons (dropAt rfl) (fun K hK => ?_) .nil
     clear hH
     go_simp
     have hbz := (Below.refl vz.heap.size vz).alloc (Nat.le_refl _) (.cells #[.int .i8 f1, .int .i64 d1, .int .i8 f2, .int .i64 d2] 26)
     refine hK.out _ _ (HC.out _ (HA.out.below.trans (hbz.mono HA.out.below.size))) (fun hH => ?_)
     clear hK K
     try simp only [pt]
     refine rd [11] ?_
     refine .cons (dropAt rfl) (fun K hK => ?_) .nil
     clear hH
     refine R1.step_append_own rfl (.tmp 37) (.tmp 47) 60 rfl w0.heap.size 26 i0 (.agg #[.int .i8 0, .int .i64 0, .int .i8 0, .int .i64 0]) 4 32 Tryz.underlying60 hi0 hz0 hz1 hz2 rfl (by decide) v nn (vRn runX nn) rfl (HA.out.own.alloc _) ⟨vz.heap.size, 0, none⟩ 1 1 [.int .i8 f1, .int .i64 d1, .int .i8 f2, .int .i64 d2] rfl rfl ?c1 ?c2 ?c3 ?c4 ?c5 ?_
     case c1 => exact four_row _ _ _ _ _ _
     case c2 => intro u hu; simp at hu; rcases hu with rfl | rfl | rfl | rfl <;> rfl
     case c3 => unfold maxLen; omega
     case c4 => omega
     case c5 => have := HA.out.below.size; simp; omega
     intro v' w' hown hgrow _
     have HA := Kp.mk (HA.out.add (W' := w') (v' := v') hbz (by rw [HF.out]; exact hown) hgrow)
     obtain ⟨va, vc, rfl⟩ := rown_form hown
     clear hown hgrow hbz
     refine hK.out _ _ (HC.out _ HA.out.below) (fun hH => ?_)
     clear hK K
     try simp only [pt]
     refine tk 12 ?_ rfl hH ?_ ?_
     rotate_left
     ·(intro w hSw; (try dsimp only at hSw); go_simp; try with_reducible rfl)
     try simp only [pt]
     refine wpAnyH_done (by kernel_rfl) ?_ _
     clear hH
     go_wp2_with fail
     go_roundw
     case rel => exact ⟨b + 1, _, by omega, by go_num, rfl, by rw [show a * 9 + (b + 1) = nn + 1 by have := HN.out; omega]; exact HA⟩
     case measure => simp [intOf]; omega
    ·obtain rfl : b = 9 := by omega
     have HA := Kp.mk (show Ap w0 runX ((a + 1) * 9) v wr by rw [show (a + 1) * 9 = a * 9 + 9 by omega]; exact HA.out)
     obtain ⟨va, vc, rfl⟩ := rown_form HA.out.own
     go_wp2_with fail
     go_roundw
     case rel => exact ⟨a + 1, _, by omega, by go_num, rfl, HA⟩
     case measure => simp [intOf]; omega
  ·obtain rfl : a = 9 := by omega
   have HA := Kp.mk (show Ap w0 runX (80 + 1) v wr from HA.out)
   obtain ⟨g, cap, rfl, hkr⟩ := HA.out.row (HX.out.below.trans (HA.out.below.mono HX.out.below.size))
   have HK := Kp.mk hkr
   clear hkr HA HX
   simp only [show 80 + 1 = 81 from rfl] at HK
   go_wp2_with fail
   go_loopw [9, 10] (fun i _ wr => ∃ a : Nat, a ≤ 81 ∧ i = .int .i64 (a : Int) ∧ Kp (Kr w g 81 runX wr)) (fun i _ _ => 81 - (intOf i).toNat)
   case atStart => exact ⟨0, by omega, rfl, HK⟩
   case round =>
    obtain ⟨a, ha, rfl, HK⟩ := hrel
    by_cases ha9 : a < 81
    ·have t1 : decide ((a : Int) < 81) = true := decide_eq_true (by omega)
     have b1 : (a : Int) < 81 := by omega
     have wa : IntKind.i64.wrap ((a : Int) + 1) = (a : Int) + 1 := IntWalk.i64_in _ (by omega)
     obtain ⟨r, hr⟩ : ∃ r, runX a = r := ⟨_, rfl⟩
     have hin := runX_in a
     rw [hr] at hin
     have HC := Kp.mk (fun (W : World) (h : Kr w g 81 runX W) => show W.cell? ⟨g, a * 4, none⟩ = some (.int .i8 r.f) ∧ W.cell? ⟨g, a * 4 + 1, none⟩ = some (.int .i64 r.d) ∧ W.cell? ⟨g, a * 4 + 2, none⟩ = some (.int .i8 r.g) ∧ W.cell? ⟨g, a * 4 + 3, none⟩ = some (.int .i64 r.e) by rw [← hr]; exact ⟨h.c0 a ha9, h.c1 a ha9, h.c2 a ha9, h.c3 a ha9⟩)
     have HIN := Kp.mk hin
     clear hr hin
     go_wp2_with fail
     clear t1
     go_loopw [10] (fun k wr => ∃ b : Nat, b ≤ 81 ∧ k = .int .i64 (b : Int) ∧ Kp (Kr w g 81 runX wr)) (fun k _ => 81 - (intOf k).toNat)
     case atStart => exact ⟨0, by omega, rfl, HK⟩
     case round =>
      obtain ⟨b, hb, rfl, HK⟩ := hrel
      by_cases hb9 : b < 81
      ·have t2 : decide ((b : Int) < 81) = true := decide_eq_true (by omega)
       have b2 : (b : Int) < 81 := by omega
       have wb : IntKind.i64.wrap ((b : Int) + 1) = (b : Int) + 1 := IntWalk.i64_in _ (by omega)
       have wd : IntKind.i64.wrap ((a : Int) - (b : Int)) = (a : Int) - (b : Int) := IntWalk.i64_in _ (by omega)
       obtain ⟨s, hs⟩ : ∃ s, runX b = s := ⟨_, rfl⟩
       have hin := runX_in b
       rw [hs] at hin
       have HD := Kp.mk (fun (W : World) (h : Kr w g 81 runX W) => show W.cell? ⟨g, b * 4, none⟩ = some (.int .i8 s.f) ∧ W.cell? ⟨g, b * 4 + 1, none⟩ = some (.int .i64 s.d) ∧ W.cell? ⟨g, b * 4 + 2, none⟩ = some (.int .i8 s.g) ∧ W.cell? ⟨g, b * 4 + 3, none⟩ = some (.int .i64 s.e) by rw [← hs]; exact ⟨h.c0 b hb9, h.c1 b hb9, h.c2 b hb9, h.c3 b hb9⟩)
       have r1 := Kp.mk (rpr.out r s ((a : Int) - (b : Int)) HIN.out hin (by omega) (by omega))
       clear hs hin
       go_upto_region 17 with fail
       have hd := (Below.refl wr.heap.size wr).drew
       have HKz := Kp.mk (HK.out.step hd)
       obtain ⟨kz0, kz1, kz2, kz3⟩ := HC.out _ HKz.out
       obtain ⟨kz4, kz5, kz6, kz7⟩ := HD.out _ HKz.out
       clear hd
       go_region_held3 (fun w' => w'.cell? ⟨g, a * 4, none⟩ = some (.int .i8 r.f) ∧ w'.cell? ⟨g, a * 4 + 1, none⟩ = some (.int .i64 r.d) ∧ w'.cell? ⟨g, a * 4 + 2, none⟩ = some (.int .i8 r.g) ∧ w'.cell? ⟨g, a * 4 + 3, none⟩ = some (.int .i64 r.e) ∧ w'.cell? ⟨g, b * 4, none⟩ = some (.int .i8 s.f) ∧ w'.cell? ⟨g, b * 4 + 1, none⟩ = some (.int .i64 s.d) ∧ w'.cell? ⟨g, b * 4 + 2, none⟩ = some (.int .i8 s.g) ∧ w'.cell? ⟨g, b * 4 + 3, none⟩ = some (.int .i64 s.e)) (first | (with_reducible exact ⟨kz0, kz1, kz2, kz3, kz4, kz5, kz6, kz7⟩) | (with_reducible exact ⟨ky0, ky1, ky2, ky3, ky4, ky5, ky6, ky7⟩) | go_keep)
        (first
         | (go_at_call 3; (with_reducible show Calls _ _ _ wr.drew _); (with_reducible refine (r1.out _ HKz.out.below).mono ?_); rintro e v0 ⟨rfl, hb⟩; have HKy := Kp.mk (HKz.out.step hb); obtain ⟨ky0, ky1, ky2, ky3⟩ := HC.out _ HKy.out; obtain ⟨ky4, ky5, ky6, ky7⟩ := HD.out _ HKy.out; clear hb))
       go_wp2_with fail
       go_roundw
       case rel =>
        first
         | exact ⟨b + 1, by omega, by go_num, HKy⟩
         | ((repeat apply Exists.intro); exact ⟨⟨b + 1, by omega, by go_num, HKy⟩, rfl⟩)
       case measure => simp [intOf]; omega
      ·obtain rfl : b = 81 := by omega
       have q1 := Kp.mk (rtx.out r HIN.out)
       have q2 := Kp.mk (ron.out r 1 (a : Int) 40 HIN.out (by decide) (by omega) (by decide))
       have q3 := Kp.mk (ron.out r (-9223372036854775808) 40 (a : Int) HIN.out (by decide) (by decide) (by omega))
       obtain ⟨k0, k1, k2, k3⟩ := HC.out _ HK.out
       go_wp2_with fail
       refine (q1.out _ HK.out.below).mono ?_
       rintro e vq1 ⟨rfl, hbl⟩
       have HK := Kp.mk (HK.out.step hbl)
       clear hbl k0 k1 k2 k3
       obtain ⟨k0, k1, k2, k3⟩ := HC.out _ HK.out
       go_wp2_with fail
       refine (q2.out _ HK.out.below).mono ?_
       rintro e vq2 ⟨rfl, hbl⟩
       have HK := Kp.mk (HK.out.step hbl)
       clear hbl k0 k1 k2 k3
       obtain ⟨k0, k1, k2, k3⟩ := HC.out _ HK.out
       go_wp2_with fail
       refine (q3.out _ HK.out.below).mono ?_
       rintro e vq3 ⟨rfl, hbl⟩
       have HK := Kp.mk (HK.out.step hbl)
       clear hbl k0 k1 k2 k3
       obtain ⟨k0, k1, k2, k3⟩ := HC.out _ HK.out
       go_wp2_with fail
       go_roundw
       case rel =>
        first
         | exact ⟨a + 1, by omega, by go_num, HK⟩
         | ((repeat apply Exists.intro); exact ⟨⟨a + 1, by omega, by go_num, HK⟩, rfl⟩)
       case measure => simp [intOf]; omega
    ·obtain rfl : a = 81 := by omega
     have HB := Kp.mk (Bl.mk HK.out.below)
     clear HK
     go_wp2_with fail
     refine (rps.out _ _ HB.out.below).mono ?_
     rintro e v0 ⟨rfl, hbl⟩
     have HB := Kp.mk (HB.out.step hbl)
     clear hbl
     go_wp2_with fail
     refine (rps.out _ _ HB.out.below).mono ?_
     rintro e v1 ⟨rfl, hbl⟩
     have HB := Kp.mk (HB.out.step hbl)
     clear hbl
     go_wp2_with fail
     refine (rps.out _ _ HB.out.below).mono ?_
     rintro e v2 ⟨rfl, hbl⟩
     have HB := Kp.mk (HB.out.step hbl)
     clear hbl
     go_wp2_with fail
     refine (rps.out _ _ HB.out.below).mono ?_
     rintro e v3 ⟨rfl, hbl⟩
     have HB := Kp.mk (HB.out.step hbl)
     clear hbl
     go_wp2_with fail
     refine (rps.out _ _ HB.out.below).mono ?_
     rintro e v4 ⟨rfl, hbl⟩
     have HB := Kp.mk (HB.out.step hbl)
     clear hbl
     go_wp2_with fail
     refine (rps.out _ _ HB.out.below).mono ?_
     rintro e v5 ⟨rfl, hbl⟩
     have HB := Kp.mk (HB.out.step hbl)
     clear hbl
     go_wp2_with fail
     refine (rps.out _ _ HB.out.below).mono ?_
     rintro e v6 ⟨rfl, hbl⟩
     have HB := Kp.mk (HB.out.step hbl)
     clear hbl
     go_wp2_with fail
     refine (rps.out _ _ HB.out.below).mono ?_
     rintro e v7 ⟨rfl, hbl⟩
     have HB := Kp.mk (HB.out.step hbl)
     clear hbl
     go_wp2_with fail
     refine (rps.out _ _ HB.out.below).mono ?_
     rintro e v8 ⟨rfl, hbl⟩
     have HB := Kp.mk (HB.out.step hbl)
     clear hbl
     go_wp2_with fail
     refine (rps.out _ _ HB.out.below).mono ?_
     rintro e v9 ⟨rfl, hbl⟩
     have HB := Kp.mk (HB.out.step hbl)
     clear hbl
     go_wp2_with fail
     refine (rl.out _ HB.out.below).mono ?_
     rintro e v10 ⟨rfl, hbl⟩
     have HB := Kp.mk (HB.out.step hbl)
     clear hbl
     go_wp2_with fail
     go_ret
     exact ⟨rfl, HB.out.below⟩
end Go.Proofs.YteddfolhpoikcaaGreatDoor
