/-
 DERIVED. The statements' own function set: a run set of days. Written by mkrs5.py.
-/
import Derived.Test.YtndjcmclmhoigaaGreatDoorPA7
import Derived.Test.YtndjcmclmhoigaaGreatDoorPA6
import Derived.Test.YtndjcmclmhoigaaGreatDoorPA3
namespace Go.Proofs.YtndjcmclmhoigaaGreatDoor
open Go.RowKit
set_option maxRecDepth 100000

/-- numbers in a block -/
structure Zs (w : World) (g : Nat) (zs : List Int) (W : World) : Prop where
 below : Below w.heap.size w W
 size : g < W.heap.size
 cell : ∀ i z, zs[i]? = some z → W.cell? ⟨g, i, none⟩ = some (.int .i64 z)
variable {w W W' : World} {g : Nat} {zs : List Int}
theorem Zs.step (h : Zs w g zs W) (hb : Below W.heap.size W W') : Zs w g zs W' :=
 ⟨h.below.trans (hb.mono h.below.size), Nat.lt_of_lt_of_le h.size hb.size, fun i z hz => by rw [hb.cell (p := ⟨g, i, none⟩) h.size]; exact h.cell i z hz⟩
theorem zs_new (zs : List Int) (t : TypeId) (hb : Below w.heap.size w W) : Zs w W.heap.size zs (W.alloc (.cells (zs.map (Value.int .i64)).toArray t)) :=
 ⟨hb.alloc hb.size _, by simp, fun i z hz => by rw [World.cell?_alloc_new]; simp [hz]⟩
theorem Zs.two (h : Zs w g zs W) {i : Nat} {x y : Int} (hx : zs[i]? = some x) (hy : zs[i + 1]? = some y) : W.cell? ⟨g, i, none⟩ = some (.int .i64 x) ∧ W.cell? ⟨g, i + 1, none⟩ = some (.int .i64 y) := ⟨h.cell i x hx, h.cell (i + 1) y hy⟩
/-- the runs of days -/
def pairs : List Int → List Rn
 | x :: y :: t => ⟨0, x, 0, y⟩ :: pairs t
 | _ => []
theorem pairs_take : ∀ (k : Nat) {zs : List Int} {x y : Int}, zs[2 * k]? = some x → zs[2 * k + 1]? = some y → pairs (zs.take (2 * (k + 1))) = pairs (zs.take (2 * k)) ++ [⟨0, x, 0, y⟩]
 | 0, a :: b :: t, x, y, hx, hy => by simp at hx hy; subst hx hy; rfl
 | 0, [a], x, y, hx, hy => by simp at hy
 | 0, [], x, y, hx, hy => by simp at hx
 | k + 1, a :: b :: t, x, y, hx, hy => by
  have e1 : (a :: b :: t)[2 * (k + 1)]? = t[2 * k]? := by rw [show 2 * (k + 1) = 2 * k + 1 + 1 by omega]; rfl
  have e2 : (a :: b :: t)[2 * (k + 1) + 1]? = t[2 * k + 1]? := by rw [show 2 * (k + 1) + 1 = 2 * k + 1 + 1 + 1 by omega]; rfl
  rw [e1] at hx
  rw [e2] at hy
  have := pairs_take k hx hy
  rw [show 2 * (k + 1 + 1) = 2 * (k + 1) + 1 + 1 by omega, show 2 * (k + 1) = 2 * k + 1 + 1 by omega]
  show pairs (a :: b :: t.take (2 * k + 1 + 1)) = pairs (a :: b :: t.take (2 * k)) ++ _
  rw [show 2 * k + 1 + 1 = 2 * (k + 1) by omega]
  show (⟨0, a, 0, b⟩ : Rn) :: pairs (t.take (2 * (k + 1))) = (⟨0, a, 0, b⟩ : Rn) :: pairs (t.take (2 * k)) ++ _
  rw [this]
  rfl
 | k + 1, [a], x, y, hx, hy => by simp at hy
 | k + 1, [], x, y, hx, hy => by simp at hx
set_option maxHeartbeats 4000000 in
theorem set_isc {n cap : Nat} (hn : zs.length = 2 * n) (hn9 : n ≤ 9) (hz : Zs w g zs w) :
 Calls Tryz.prog 71 #[.slice (some ⟨g, 0, none⟩) zs.length cap] w (LsRc w (pairs zs)) := by
 have HZ := Kp.mk hz
 have HN := Kp.mk hn
 have HB0 := Kp.mk (Below.refl w.heap.size w)
 clear hz
 have hz2 : (zs.length : Int) = 2 * (n : Int) := by omega
 rw [hn]
 clear hn hz2
 obtain ⟨k, hk⟩ : ∃ k, 2 * n = k := ⟨_, rfl⟩
 rw [hk]
 go_enter Tryz.func71, Tryz.ntmps71
 go_wp2_with fail
 have HG := Kp.mk (ag_new w)
 go_loopw [3, 4] (fun v i wr => ∃ (p : Nat) (os : List Rn), p ≤ n ∧ i = .int .i64 ((2 * p : Nat) : Int) ∧ os.length ≤ p ∧ Kp (os = pairs (zs.take (2 * p))) ∧ Kp (Ag w os v wr)) (fun _ i _ => k - (intOf i).toNat)
 case atStart => exact ⟨0, [], by omega, rfl, by simp, Kp.mk rfl, HG⟩
 case round =>
  clear HG
  obtain ⟨p, os, hp, rfl, hol, HO, HG⟩ := hrel
  have HZs := Kp.mk (HZ.out.step HG.out.below)
  obtain ⟨j, hj⟩ : ∃ j, 2 * p = j := ⟨_, rfl⟩
  rw [hj]
  have w1 : IntKind.i64.wrap ((j : Int) + 1) = (j : Int) + 1 := IntWalk.i64_in _ (by omega)
  have w2 : IntKind.i64.wrap ((j : Int) + 2) = (j : Int) + 2 := IntWalk.i64_in _ (by omega)
  by_cases h1 : p < n
  ·have d1 : decide ((j : Int) + 1 < (k : Int)) = true := decide_eq_true (by omega)
   have d2 : (j : Int) + 1 < (k : Int) := by omega
   have d3 : (j : Int) < (k : Int) := by omega
   have d4 : (0 : Int) ≤ (j : Int) + 1 := by omega
   obtain ⟨x, hx⟩ : ∃ x, zs[2 * p]? = some x := ⟨zs[2 * p]'(by have := HN.out; omega), List.getElem?_eq_getElem _⟩
   obtain ⟨y, hy⟩ : ∃ y, zs[2 * p + 1]? = some y := ⟨zs[2 * p + 1]'(by have := HN.out; omega), List.getElem?_eq_getElem _⟩
   have HO2 : Kp (os ++ [⟨0, x, 0, y⟩] = pairs (zs.take (2 * (p + 1)))) := Kp.mk (by rw [pairs_take p hx hy, ← HO.out])
   rw [hj] at hx hy
   have HX := Kp.mk hx
   have HY := Kp.mk hy
   have hjn : 2 * (p + 1) = j + 2 := by omega
   clear hx hy
   go_upto_region 5 with fail
   have hbl := (Below.refl wr.heap.size wr).drew
   have HZsz := Kp.mk (HZs.out.step hbl)
   have HGz := Kp.mk (HG.out.step hbl)
   obtain ⟨k0z, k1z⟩ := HZsz.out.two HX.out HY.out
   clear hbl
   refine wp_region_held_drew (S := fun w' => w'.cell? ⟨g, j, none⟩ = some (.int .i64 x) ∧ w'.cell? ⟨g, j + 1, none⟩ = some (.int .i64 y)) (by kernel_rfl) ?_ (fun hHeld => ?_)
   ·with_reducible exact ⟨k0z, k1z⟩
   refine tk 0 ?_ rfl hHeld ?_ ?_
   rotate_left
   ·(intro w hSw; (try dsimp only at hSw); go_simp; try with_reducible rfl)
   try simp only [pt]
   refine tk 1 ?_ rfl hHeld ?_ ?_
   rotate_left
   ·(intro w hSw; (try dsimp only at hSw); go_simp; try with_reducible rfl)
   try simp only [pt]
   refine tk 2 ?_ rfl hHeld ?_ ?_
   rotate_left
   ·(intro w hSw; (try dsimp only at hSw); go_simp; try with_reducible rfl)
   try simp only [pt]
   refine tk 3 ?_ rfl hHeld ?_ ?_
   rotate_left
   ·(intro w hSw; (try dsimp only at hSw); go_simp; try with_reducible rfl)
   try simp only [pt]
   refine tk 4 ?_ rfl hHeld ?_ ?_
   rotate_left
   ·(intro w hSw; (try dsimp only at hSw); go_simp; try with_reducible rfl)
   try simp only [pt]
   refine tk 5 ?_ rfl hHeld ?_ ?_
   rotate_left
   ·(intro w hSw; (try dsimp only at hSw); go_simp; try with_reducible rfl)
   try simp only [pt]
   refine tk 6 ?_ rfl hHeld ?_ ?_
   rotate_left
   ·(intro w hSw; (try dsimp only at hSw); go_simp; try with_reducible rfl)
   try simp only [pt]
   refine tk 7 ?_ rfl hHeld ?_ ?_
   rotate_left
   ·(intro w hSw; (try dsimp only at hSw); go_simp; try with_reducible rfl)
   try simp only [pt]
   refine tk 8 ?_ rfl hHeld ?_ ?_
   rotate_left
   ·(intro w hSw; (try dsimp only at hSw); go_simp; try with_reducible rfl)
   try simp only [pt]
   refine tk 9 ?_ rfl hHeld ?_ ?_
   rotate_left
   ·(intro w hSw; (try dsimp only at hSw); go_simp; try with_reducible rfl)
   try simp only [pt]
   refine tk 10 ?_ rfl hHeld ?_ ?_
   rotate_left
   ·(intro w hSw; (try dsimp only at hSw); go_simp; try with_reducible rfl)
   try simp only [pt]
   refine tk 11 ?_ rfl hHeld ?_ ?_
   rotate_left
   ·(intro w hSw; (try dsimp only at hSw); go_simp; try with_reducible rfl)
   try simp only [pt]
   refine tk 12 ?_ rfl hHeld ?_ ?_
   rotate_left
   ·(intro w hSw; (try dsimp only at hSw); go_simp; try with_reducible rfl)
   try simp only [pt]
   refine rd [13] ?_
   refine AllReadyH.cons (dropAt rfl) (fun K hK => ?_) AllReadyH.nil
   clear hHeld k0z k1z
   have hal := (Below.refl wr.drew.heap.size wr.drew).alloc (Nat.le_refl _) (.cells #[.int .i8 0, .int .i64 x, .int .i8 0, .int .i64 y] 26)
   go_simp
   have HZs := HZsz
   have HG := HGz
   have HO1 := Kp.mk (lr_one (w := w) ⟨0, x, 0, y⟩ HG.out.below)
   have HG := Kp.mk (HG.out.step hal)
   have HZs := Kp.mk (HZs.out.step hal)
   clear hal
   rw [show wr.drew.alloc (.cells #[.int .i8 0, .int .i64 x, .int .i8 0, .int .i64 y] 26) = (wr.alloc (.cells #[.int .i8 0, .int .i64 x, .int .i8 0, .int .i64 y] 26)).drew from rfl] at HO1 HG HZs
   rw [show wr.drew.heap.size = wr.heap.size from rfl] at HO1
   generalize (wr.alloc (.cells #[.int .i8 0, .int .i64 x, .int .i8 0, .int .i64 y] 26)).drew = y1 at *
   generalize wr.heap.size = gn at *
   obtain ⟨k0_y1, k1_y1⟩ := HZs.out.two HX.out HY.out
   refine hK.out _ _ ?_ (fun hHeld => ?_)
   ·with_reducible exact ⟨k0_y1, k1_y1⟩
   clear hK K
   try simp only [pt]
   refine rd [14] ?_
   refine AllReadyH.cons (dropAt rfl) (fun K hK => ?_) AllReadyH.nil
   clear hHeld k0_y1 k1_y1
   refine wp_append_ls (.tmp 12) (.tmp 25) rfl HG.out HO1.out (fun e => (by cases e)) rfl rfl (by simp; omega) (fun vn y2 hgn => ?_)
   have HZs := HZs
   have HG := HG
   have HG := Kp.mk hgn
   have HZs := Kp.mk (HZ.out.step HG.out.below)
   clear hgn HO1
   obtain ⟨k0_y2, k1_y2⟩ := HZs.out.two HX.out HY.out
   refine hK.out _ _ ?_ (fun hHeld => ?_)
   ·with_reducible exact ⟨k0_y2, k1_y2⟩
   clear hK K
   try simp only [pt]
   refine tk 15 ?_ rfl hHeld ?_ ?_
   rotate_left
   ·(intro w hSw; (try dsimp only at hSw); go_simp; try with_reducible rfl)
   try simp only [pt]
   refine wpAnyH_done (by kernel_rfl) ?_ _
   clear hHeld
   have HZs := HZs
   have HG := HG
   clear k0_y2 k1_y2
   go_wp2_with fail
   go_roundw
   case rel => exact ⟨p + 1, os ++ [⟨0, x, 0, y⟩], by omega, by rw [hjn]; go_num, by rw [List.length_append]; simp; omega, HO2, HG⟩
   case measure => simp [intOf]; omega
  ·have d1 : decide ((j : Int) + 1 < (k : Int)) = false := decide_eq_false (by omega)
   have d2 : ¬ (j : Int) + 1 < (k : Int) := by omega
   have hos : os = pairs zs := by rw [HO.out, List.take_of_length_le (by have := HN.out; omega)]
   have HOS := Kp.mk hos
   clear hos
   go_wp2_with fail
   go_ret
   exact HOS.out ▸ ls_ofc HG.out HB0.out
theorem set_is {n cap : Nat} (hn : zs.length = 2 * n) (hn9 : n ≤ 9) (hz : Zs w g zs w) :
 Calls Tryz.prog 71 #[.slice (some ⟨g, 0, none⟩) zs.length cap] w (LsR w (pairs zs)) := (set_isc hn hn9 hz).mono fun _ _ h => h.1
end Go.Proofs.YtndjcmclmhoigaaGreatDoor
