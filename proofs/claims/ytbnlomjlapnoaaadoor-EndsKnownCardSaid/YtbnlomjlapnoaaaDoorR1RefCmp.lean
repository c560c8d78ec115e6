/-
  DERIVED. CONTRACT of the reference's Cmp.
-/
import Derived.Test.YtbnlomjlapnoaaaDoorR1RefSub
import Derived.Deep.RegionHeld3
import Derived.Deep.DeepCutAuto
namespace Go.Proofs.YtbnlomjlapnoaaaDoor.R1
open Go.RowKit

def cmpI (x y : Int) : Int := if x < y then -1 else if y < x then 1 else 0

set_option maxRecDepth 100000 in
set_option maxHeartbeats 1000000 in
theorem ref_cmp (x y : Int) (va vb : Value) (w : World) (ha : Digs w va (dg x.natAbs)) (hb : Digs w vb (dg y.natAbs)) (hx : (dg x.natAbs).length ≤ 1000) (hy : (dg y.natAbs).length ≤ 1000) :
    Calls Tryd.prog 39 #[.agg #[.bool (decide (x < 0)), va], .agg #[.bool (decide (y < 0)), vb]] w fun e w' => e = .returned (.int .i64 (cmpI x y)) ∧ Below w.heap.size w w' := by
  obtain ⟨p1, q1, rfl⟩ := ha.head
  obtain ⟨p2, q2, rfl⟩ := hb.head
  have hneg := fun (w1 : World) (hb : Digs w1 (.slice p2 (dg y.natAbs).length q2) (dg y.natAbs)) => neg_any y _ w1 hb
  obtain ⟨z, hz⟩ : ∃ z, z = -y := ⟨_, rfl⟩
  have hyz : (dg z.natAbs).length ≤ 1000 := by rw [hz, Int.natAbs_neg]; exact hy
  rw [← hz] at hneg
  have hadd := fun (a : Option Addr) (cap : Nat) (w1 : World) (ha : Digs w1 (.slice p1 (dg x.natAbs).length q1) (dg x.natAbs)) (hb : Digs w1 (.slice a (dg z.natAbs).length cap) (dg z.natAbs)) => ref_add x z _ _ w1 ha hb hx hyz
  obtain ⟨d, hd⟩ : ∃ d, d = x + z := ⟨_, rfl⟩
  rw [← hd] at hadd
  have hxyd : d = x - y := by omega
  have HXYD := Lib.hid hxyd; clear hxyd hd hyz hz
  have HNEG := Lib.hid hneg; clear hneg
  have HADD := Lib.hid hadd; clear hadd
  have HA := Lib.hid ha; clear ha
  have HB := Lib.hid hb; clear hb
  go_enter Tryd.func39, Tryd.ntmps39
  go_upto_region 1 with fail
  go_cut [5] (fun s5 wx => ∃ a cap k, s5 = .pointer (some ⟨k, 0, none⟩) ∧ wx.cell? ⟨k, 0, none⟩ = some (.bool (decide (d < 0))) ∧ wx.cell? ⟨k, 1, none⟩ = some (.slice a (dg d.natAbs).length cap) ∧ Below w.heap.size w wx)
  case first =>
    have nn0 : ¬ w.heap.size = w.heap.size + 1 + 1 := by omega
    have nn1 : ¬ w.heap.size + 1 + 1 = w.heap.size := by omega
    go_region_held3 (fun w' => w'.cell? ⟨w.heap.size, 0, none⟩ = some (.bool (decide (x < 0))) ∧ w'.cell? ⟨w.heap.size, 1, none⟩ = some (.slice p1 (dg x.natAbs).length q1) ∧ w'.cell? ⟨w.heap.size + 1, 0, none⟩ = some (.bool (decide (y < 0))) ∧ w'.cell? ⟨w.heap.size + 1, 1, none⟩ = some (.slice p2 (dg y.natAbs).length q2)) (go_keep)
      (first
        | (go_at_call 48; (with_reducible show Calls _ _ _ (((w.alloc _).alloc _).drew) _); refine (HNEG.out (((w.alloc _).alloc _).drew) (HB.out.below ((below2 w _ _).drew))).mono ?_; rintro e w1 ⟨⟨a1, cap1, rfl, hd1, hf1⟩, hb1⟩; have D1 := Lib.hid hd1; clear hd1 hf1; have hb2 : Below w.heap.size w w1 := ((below2 w _ _).drew).trans (hb1.mono (by simp; omega)); have hz1 : w.heap.size + 1 + 1 ≤ w1.heap.size := (by have := hb1.size; simp at this; omega); have k0 : w1.cell? ⟨w.heap.size, 0, none⟩ = some (.bool (decide (x < 0))) := (by rw [hb1.cell (p := ⟨w.heap.size, 0, none⟩) (by simp <;> omega)]; simp [go_sem]); have k1 : w1.cell? ⟨w.heap.size, 1, none⟩ = some (.slice p1 (dg x.natAbs).length q1) := (by rw [hb1.cell (p := ⟨w.heap.size, 1, none⟩) (by simp <;> omega)]; simp [go_sem]); have k2 : w1.cell? ⟨w.heap.size + 1, 0, none⟩ = some (.bool (decide (y < 0))) := (by rw [hb1.cell (p := ⟨w.heap.size + 1, 0, none⟩) (by simp <;> omega)]; simp [go_sem]); have k3 : w1.cell? ⟨w.heap.size + 1, 1, none⟩ = some (.slice p2 (dg y.natAbs).length q2) := (by rw [hb1.cell (p := ⟨w.heap.size + 1, 1, none⟩) (by simp <;> omega)]; simp [go_sem]); have ek1 := World.new_ne w1 _ k0; have ek2 := World.new_ne w1 _ k2; clear hb1)
        | (go_at_call 48; (with_reducible show Calls _ _ _ ((((w.alloc _).alloc _).alloc _).drew) _); refine (HNEG.out ((((w.alloc _).alloc _).alloc _).drew) (HB.out.below ((below3 w _ _ _).drew))).mono ?_; rintro e w1 ⟨⟨a1, cap1, rfl, hd1, hf1⟩, hb1⟩; have D1 := Lib.hid hd1; clear hd1 hf1; have hb2 : Below w.heap.size w w1 := ((below3 w _ _ _).drew).trans (hb1.mono (by simp; omega)); have hz1 : w.heap.size + 1 + 1 ≤ w1.heap.size := (by have := hb1.size; simp at this; omega); have k0 : w1.cell? ⟨w.heap.size, 0, none⟩ = some (.bool (decide (x < 0))) := (by rw [hb1.cell (p := ⟨w.heap.size, 0, none⟩) (by simp <;> omega)]; simp [go_sem]); have k1 : w1.cell? ⟨w.heap.size, 1, none⟩ = some (.slice p1 (dg x.natAbs).length q1) := (by rw [hb1.cell (p := ⟨w.heap.size, 1, none⟩) (by simp <;> omega)]; simp [go_sem]); have k2 : w1.cell? ⟨w.heap.size + 1, 0, none⟩ = some (.bool (decide (y < 0))) := (by rw [hb1.cell (p := ⟨w.heap.size + 1, 0, none⟩) (by simp <;> omega)]; simp [go_sem]); have k3 : w1.cell? ⟨w.heap.size + 1, 1, none⟩ = some (.slice p2 (dg y.natAbs).length q2) := (by rw [hb1.cell (p := ⟨w.heap.size + 1, 1, none⟩) (by simp <;> omega)]; simp [go_sem]); have kz : w.heap.size + 1 + 1 < w1.heap.size := (by have := hb1.size; simp at this; omega); have kk0 : w1.cell? ⟨w.heap.size + 1 + 1, 0, none⟩ = some (.bool false) := (by rw [hb1.cell (p := ⟨w.heap.size + 1 + 1, 0, none⟩) (by simp)]; simp [go_sem]); have kf0 : w1.frozen? ⟨w.heap.size + 1 + 1, 0, none⟩ = false := (by rw [hb1.frozen (p := ⟨w.heap.size + 1 + 1, 0, none⟩) (by simp)]; simp [go_sem]); have kk1 : w1.cell? ⟨w.heap.size + 1 + 1, 1, none⟩ = some (.slice none 0 0) := (by rw [hb1.cell (p := ⟨w.heap.size + 1 + 1, 1, none⟩) (by simp)]; simp [go_sem]); have kf1 : w1.frozen? ⟨w.heap.size + 1 + 1, 1, none⟩ = false := (by rw [hb1.frozen (p := ⟨w.heap.size + 1 + 1, 1, none⟩) (by simp)]; simp [go_sem]); have ek1 := World.new_ne w1 _ k0; have ek2 := World.new_ne w1 _ k2; clear hb1)
        | (go_at_call 47; (with_reducible show Calls _ _ _ (w1.alloc _) _); refine (HADD.out _ _ (w1.alloc _) (HA.out.below (hb2.alloc (by omega) _)) (D1.out.below (below1 _ _))).mono ?_; rintro e w2 ⟨⟨a2, cap2, rfl, hd2, hf2⟩, hb3⟩; clear hd2 hf2; have hs3 : w1.heap.size ≤ w2.heap.size := (by have := hb3.size; first | exact this | (simp at this; omega)); have j0 : w2.cell? ⟨w.heap.size, 0, none⟩ = some (.bool (decide (x < 0))) := (by rw [hb3.cell (p := ⟨w.heap.size, 0, none⟩) (show w.heap.size < (w1.alloc _).heap.size by simp; omega), (below1 w1 _).cell (p := ⟨w.heap.size, 0, none⟩) (show w.heap.size < w1.heap.size by omega)]; exact k0); have j1 : w2.cell? ⟨w.heap.size, 1, none⟩ = some (.slice p1 (dg x.natAbs).length q1) := (by rw [hb3.cell (p := ⟨w.heap.size, 1, none⟩) (show w.heap.size < (w1.alloc _).heap.size by simp; omega), (below1 w1 _).cell (p := ⟨w.heap.size, 1, none⟩) (show w.heap.size < w1.heap.size by omega)]; exact k1); have j2 : w2.cell? ⟨w.heap.size + 1, 0, none⟩ = some (.bool (decide (y < 0))) := (by rw [hb3.cell (p := ⟨w.heap.size + 1, 0, none⟩) (show w.heap.size + 1 < (w1.alloc _).heap.size by simp; omega), (below1 w1 _).cell (p := ⟨w.heap.size + 1, 0, none⟩) (show w.heap.size + 1 < w1.heap.size by omega)]; exact k2); have j3 : w2.cell? ⟨w.heap.size + 1, 1, none⟩ = some (.slice p2 (dg y.natAbs).length q2) := (by rw [hb3.cell (p := ⟨w.heap.size + 1, 1, none⟩) (show w.heap.size + 1 < (w1.alloc _).heap.size by simp; omega), (below1 w1 _).cell (p := ⟨w.heap.size + 1, 1, none⟩) (show w.heap.size + 1 < w1.heap.size by omega)]; exact k3); have jm0 : w2.cell? ⟨w1.heap.size, 0, none⟩ = some (.bool false) := (by rw [hb3.cell (p := ⟨w1.heap.size, 0, none⟩) (by simp)]; simp [go_sem]); have jmf0 : w2.frozen? ⟨w1.heap.size, 0, none⟩ = false := (by rw [hb3.frozen (p := ⟨w1.heap.size, 0, none⟩) (by simp)]; simp [go_sem]); have jm1 : w2.cell? ⟨w1.heap.size, 1, none⟩ = some (.slice none 0 0) := (by rw [hb3.cell (p := ⟨w1.heap.size, 1, none⟩) (by simp)]; simp [go_sem]); have jmf1 : w2.frozen? ⟨w1.heap.size, 1, none⟩ = false := (by rw [hb3.frozen (p := ⟨w1.heap.size, 1, none⟩) (by simp)]; simp [go_sem]); have ej1 := World.new_ne w2 _ j0; have ej2 := World.new_ne w2 _ j2; have hb4 : Below w.heap.size w w2 := (hb2.alloc (by omega) _).trans (hb3.mono (by simp; omega)); clear hb3)
        | (have _tok := kk0; go_at_call 47; (with_reducible show Calls _ _ _ w1 _); refine (HADD.out _ _ (w1) (HA.out.below (hb2)) (D1.out)).mono ?_; rintro e w2 ⟨⟨a2, cap2, rfl, hd2, hf2⟩, hb3⟩; clear hd2 hf2; have hs3 : w1.heap.size ≤ w2.heap.size := hb3.size; have j0 : w2.cell? ⟨w.heap.size, 0, none⟩ = some (.bool (decide (x < 0))) := (by rw [hb3.cell (p := ⟨w.heap.size, 0, none⟩) (show w.heap.size < w1.heap.size by omega)]; exact k0); have j1 : w2.cell? ⟨w.heap.size, 1, none⟩ = some (.slice p1 (dg x.natAbs).length q1) := (by rw [hb3.cell (p := ⟨w.heap.size, 1, none⟩) (show w.heap.size < w1.heap.size by omega)]; exact k1); have j2 : w2.cell? ⟨w.heap.size + 1, 0, none⟩ = some (.bool (decide (y < 0))) := (by rw [hb3.cell (p := ⟨w.heap.size + 1, 0, none⟩) (show w.heap.size + 1 < w1.heap.size by omega)]; exact k2); have j3 : w2.cell? ⟨w.heap.size + 1, 1, none⟩ = some (.slice p2 (dg y.natAbs).length q2) := (by rw [hb3.cell (p := ⟨w.heap.size + 1, 1, none⟩) (show w.heap.size + 1 < w1.heap.size by omega)]; exact k3); have jj0 : w2.cell? ⟨w.heap.size + 1 + 1, 0, none⟩ = some (.bool false) := (by rw [hb3.cell (p := ⟨w.heap.size + 1 + 1, 0, none⟩) kz]; exact kk0); have jf0 : w2.frozen? ⟨w.heap.size + 1 + 1, 0, none⟩ = false := (by rw [hb3.frozen (p := ⟨w.heap.size + 1 + 1, 0, none⟩) kz]; exact kf0); have jj1 : w2.cell? ⟨w.heap.size + 1 + 1, 1, none⟩ = some (.slice none 0 0) := (by rw [hb3.cell (p := ⟨w.heap.size + 1 + 1, 1, none⟩) kz]; exact kk1); have jf1 : w2.frozen? ⟨w.heap.size + 1 + 1, 1, none⟩ = false := (by rw [hb3.frozen (p := ⟨w.heap.size + 1 + 1, 1, none⟩) kz]; exact kf1); have ej1 := World.new_ne w2 _ j0; have ej2 := World.new_ne w2 _ j2; have hb4 : Below w.heap.size w w2 := hb2.trans (hb3.mono hb2.size); clear hb3)
        | (go_at_call 47; (with_reducible show Calls _ _ _ w1 _); refine (HADD.out _ _ (w1) (HA.out.below (hb2)) (D1.out)).mono ?_; rintro e w2 ⟨⟨a2, cap2, rfl, hd2, hf2⟩, hb3⟩; clear hd2 hf2; have hs3 : w1.heap.size ≤ w2.heap.size := hb3.size; have j0 : w2.cell? ⟨w.heap.size, 0, none⟩ = some (.bool (decide (x < 0))) := (by rw [hb3.cell (p := ⟨w.heap.size, 0, none⟩) (show w.heap.size < w1.heap.size by omega)]; exact k0); have j1 : w2.cell? ⟨w.heap.size, 1, none⟩ = some (.slice p1 (dg x.natAbs).length q1) := (by rw [hb3.cell (p := ⟨w.heap.size, 1, none⟩) (show w.heap.size < w1.heap.size by omega)]; exact k1); have j2 : w2.cell? ⟨w.heap.size + 1, 0, none⟩ = some (.bool (decide (y < 0))) := (by rw [hb3.cell (p := ⟨w.heap.size + 1, 0, none⟩) (show w.heap.size + 1 < w1.heap.size by omega)]; exact k2); have j3 : w2.cell? ⟨w.heap.size + 1, 1, none⟩ = some (.slice p2 (dg y.natAbs).length q2) := (by rw [hb3.cell (p := ⟨w.heap.size + 1, 1, none⟩) (show w.heap.size + 1 < w1.heap.size by omega)]; exact k3); have ej1 := World.new_ne w2 _ j0; have ej2 := World.new_ne w2 _ j2; have hb4 : Below w.heap.size w w2 := hb2.trans (hb3.mono hb2.size); clear hb3))
    · go_wp2_with fail
      go_meet
      exact ⟨a2, cap2, _, rfl, by simp [go_sem], by simp [go_sem], hb4.alloc hb4.size _⟩
    · go_wp2_with fail
      go_meet
      exact ⟨a2, cap2, _, rfl, by simp [go_sem, jm0], by simp [go_sem, jm1], (hb4.setCell (p := ⟨w1.heap.size, 0, none⟩) (show w.heap.size ≤ w1.heap.size by omega) _).setCell (p := ⟨w1.heap.size, 1, none⟩) (show w.heap.size ≤ w1.heap.size by omega) _⟩
    · go_wp2_with fail
      go_meet
      exact ⟨a2, cap2, _, rfl, by simp [go_sem, jj0], by simp [go_sem, jj1], (hb4.setCell (p := ⟨w.heap.size + 1 + 1, 0, none⟩) (show w.heap.size ≤ w.heap.size + 1 + 1 by omega) _).setCell (p := ⟨w.heap.size + 1 + 1, 1, none⟩) (show w.heap.size ≤ w.heap.size + 1 + 1 by omega) _⟩
  case rest =>
    obtain ⟨a, cap, k, rfl, h0, h1, hbl⟩ := hcut
    have hxyd := HXYD.out
    by_cases hd : d < 0
    · rw [decide_eq_true hd] at h0
      have hr : cmpI x y = -1 := by unfold cmpI; rw [if_pos (by omega)]
      have HR := Lib.hid hr; clear hr hxyd hd h1
      go_wp2_with fail
      go_ret
      exact ⟨by rw [HR.out]; rfl, hbl⟩
    · rw [decide_eq_false hd] at h0
      by_cases hz : d = 0
      · have hl : (dg d.natAbs).length = 0 := by rw [hz]; simp [dg_zero]
        rw [hl] at h1
        have hr : cmpI x y = 0 := by unfold cmpI; rw [if_neg (by omega), if_neg (by omega)]
        have HR := Lib.hid hr; clear hr hxyd hd hl hz
        go_wp2_with fail
        go_ret
        exact ⟨by rw [HR.out]; rfl, hbl⟩
      · have hl : 0 < (dg d.natAbs).length := by
          rcases Nat.eq_zero_or_pos (dg d.natAbs).length with e | e
          · have := dg_nil.1 (List.length_eq_zero_iff.1 e)
            omega
          · exact e
        generalize (dg d.natAbs).length = L at *
        have hr : cmpI x y = 1 := by unfold cmpI; rw [if_neg (by omega), if_pos (by omega)]
        have HR := Lib.hid hr; clear hr hxyd hd hz
        go_wp2_with fail
        go_ret
        exact ⟨by rw [HR.out]; rfl, hbl⟩
end Go.Proofs.YtbnlomjlapnoaaaDoor.R1
