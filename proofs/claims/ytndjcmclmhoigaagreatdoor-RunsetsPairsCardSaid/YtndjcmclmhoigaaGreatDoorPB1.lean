/-
 DERIVED. CONTRACTS of the reference of layer 10 (runsets): Same. Written by mkrssame.py.
 DERIVED. How many days a run set has; the block of a number of the reference that is stored anew. (For the reference's Count.)
-/
import Derived.Test.YtndjcmclmhoigaaGreatDoorPRsRef
import Derived.Test.YtndjcmclmhoigaaGreatDoorPA4
import Derived.Test.YtndjcmclmhoigaaGreatDoorPA2
import Derived.Test.YtndjcmclmhoigaaGreatDoorPA6
namespace Go.Proofs.YtndjcmclmhoigaaGreatDoor
open Go.RowKit
set_option maxRecDepth 100000

variable {w W W' : World} {a b : Option Addr} {l m : List Rn}
instance : DecidableEq Rn := fun a b => decidable_of_iff (a.f = b.f ∧ a.d = b.d ∧ a.g = b.g ∧ a.e = b.e) ⟨fun h => by cases a; cases b; simp at h; obtain ⟨rfl, rfl, rfl, rfl⟩ := h; rfl, fun h => by rw [h]; exact ⟨rfl, rfl, rfl, rfl⟩⟩
set_option maxHeartbeats 4000000 in
theorem refSSame_len {p q n k : Nat} (h : ¬ n = k) (w : World) :
 Calls Tryz.prog 59 #[.slice a n p, .slice b k q] w fun x w' => x = .returned (.bool false) ∧ Below w.heap.size w w' := by
 have HB := Kp.mk (Bl.mk (Below.refl w.heap.size w))
 have n1 : ¬ (n : Int) = (k : Int) := by omega
 have t0 : ((n : Int) != (k : Int)) = true := by rw [bne_iff_ne]; exact n1
 go_enter Tryz.func59, Tryz.ntmps59
 go_wp2_with fail
 go_ret
 exact ⟨rfl, HB.out.below⟩
set_option maxHeartbeats 4000000 in
theorem refSSame_is {p q : Nat} {c : Bool} (he : l.length = m.length) (hn : l.length ≤ maxLen) (hc : decide (l = m) = c) (al : Lr w a l w) (am : Lr w b m w) :
 Calls Tryz.prog 59 #[.slice a l.length p, .slice b m.length q] w fun x w' => x = .returned (.bool c) ∧ Below w.heap.size w w' := by
 have HL := Kp.mk al
 have HM := Kp.mk am
 have hn2 : l.length ≤ 9223372036854775807 := by unfold maxLen at hn; omega
 obtain ⟨n, hnn⟩ : ∃ n, l.length = n := ⟨_, rfl⟩
 have hmm : m.length = n := by omega
 clear al am hn he
 rw [hnn] at hn2
 rw [hnn, hmm]
 go_enter Tryz.func59, Tryz.ntmps59
 go_wp2_with fail
 go_loopw [5] (fun i wr => ∃ p : Nat, p ≤ n ∧ i = .int .i64 (p : Int) ∧ decide (l.drop p = m.drop p) = c ∧ Kp (Lr w a l wr) ∧ Kp (Lr w b m wr)) (fun i _ => n - (intOf i).toNat)
 case atStart => exact ⟨0, by omega, rfl, hc, HL, HM⟩
 case round =>
  obtain ⟨p, hp, rfl, hq, HL, HM⟩ := hrel
  by_cases h1 : p < n
  ·have t1 : decide ((p : Int) < (n : Int)) = true := decide_eq_true (by omega)
   have b1 : (p : Int) < (n : Int) := by omega
   obtain ⟨r, hr⟩ : ∃ r, l[p]? = some r := ⟨l[p]'(by omega), List.getElem?_eq_getElem (by omega)⟩
   obtain ⟨x, hx⟩ : ∃ x, m[p]? = some x := ⟨m[p]'(by omega), List.getElem?_eq_getElem (by omega)⟩
   obtain ⟨g, s, rfl⟩ := HL.out.place hr
   obtain ⟨g2, s2, rfl⟩ := HM.out.place hx
   rw [drop_at hr, drop_at hx] at hq
   have wp1 : IntKind.i64.wrap ((p : Int) + 1) = (p : Int) + 1 := IntWalk.i64_in _ (by omega)
   by_cases h2 : r = x
   ·subst h2
    have hq : decide (l.drop (p + 1) = m.drop (p + 1)) = c := by rw [← hq, decide_eq_decide, List.cons.injEq]; exact ⟨fun h => ⟨rfl, h⟩, fun h => h.2⟩
    go_upto_region 6 with fail
    have hbl := (Below.refl wr.heap.size wr).drew
    have HLz := Kp.mk (HL.out.step hbl)
    have HMz := Kp.mk (HM.out.step hbl)
    obtain ⟨k0z, k1z, k2z, k3z⟩ := HLz.out.cells hr
    obtain ⟨k4z, k5z, k6z, k7z⟩ := HMz.out.cells hx
    clear hbl
    refine wp_region_held_drew (S := fun w' => w'.cell? ⟨g, s + p * 4, none⟩ = some (.int .i8 r.f) ∧ w'.cell? ⟨g, s + p * 4 + 1, none⟩ = some (.int .i64 r.d) ∧ w'.cell? ⟨g, s + p * 4 + 2, none⟩ = some (.int .i8 r.g) ∧ w'.cell? ⟨g, s + p * 4 + 3, none⟩ = some (.int .i64 r.e) ∧ w'.cell? ⟨g2, s2 + p * 4, none⟩ = some (.int .i8 r.f) ∧ w'.cell? ⟨g2, s2 + p * 4 + 1, none⟩ = some (.int .i64 r.d) ∧ w'.cell? ⟨g2, s2 + p * 4 + 2, none⟩ = some (.int .i8 r.g) ∧ w'.cell? ⟨g2, s2 + p * 4 + 3, none⟩ = some (.int .i64 r.e)) (by kernel_rfl) ?_ (fun hHeld => ?_)
    ·with_reducible exact ⟨k0z, k1z, k2z, k3z, k4z, k5z, k6z, k7z⟩
    refine tk 0 ?_ rfl hHeld ?_ ?_
    rotate_left
    ·(intro w hSw; (try dsimp only at hSw); go_simp; try with_reducible rfl)
    try simp only [pt]
    refine tk 1 ?_ rfl hHeld ?_ ?_
    rotate_left
    ·(intro w hSw; (try dsimp only at hSw); go_simp; try with_reducible rfl)
    try simp only [pt]
    refine tk 2 ?_ rfl hHeld ?_ ?_
    rotate_left
    ·(intro w hSw; (try dsimp only at hSw); go_simp; try with_reducible rfl)
    try simp only [pt]
    refine tk 3 ?_ rfl hHeld ?_ ?_
    rotate_left
    ·(intro w hSw; (try dsimp only at hSw); go_simp; try with_reducible rfl)
    try simp only [pt]
    refine tk 4 ?_ rfl hHeld ?_ ?_
    rotate_left
    ·(intro w hSw; (try dsimp only at hSw); go_simp; try with_reducible rfl)
    try simp only [pt]
    refine tk 5 ?_ rfl hHeld ?_ ?_
    rotate_left
    ·(intro w hSw; (try dsimp only at hSw); go_simp; try with_reducible rfl)
    try simp only [pt]
    refine tk 6 ?_ rfl hHeld ?_ ?_
    rotate_left
    ·(intro w hSw; (try dsimp only at hSw); go_simp; try with_reducible rfl)
    try simp only [pt]
    refine tk 7 ?_ rfl hHeld ?_ ?_
    rotate_left
    ·(intro w hSw; (try dsimp only at hSw); go_simp; try with_reducible rfl)
    try simp only [pt]
    refine tk 8 ?_ rfl hHeld ?_ ?_
    rotate_left
    ·(intro w hSw; (try dsimp only at hSw); go_simp; try with_reducible rfl)
    try simp only [pt]
    refine wpAnyH_done (by kernel_rfl) ?_ _
    clear hHeld
    have HL := HLz
    have HM := HMz
    clear k0z k1z k2z k3z k4z k5z k6z k7z
    go_wp2_with fail
    go_roundw
    case rel => exact ⟨p + 1, by omega, by go_num, hq, HL, HM⟩
    case measure => simp [intOf]; omega
   ·obtain rfl : false = c := by rw [← hq]; exact (decide_eq_false (fun h => h2 (by injection h))).symm
    by_cases f1 : r.f = x.f
    ·by_cases f2 : r.d = x.d
     ·by_cases f3 : r.g = x.g
      ·have f4 : ¬ r.e = x.e := fun h4 => h2 (by cases r; cases x; simp at f1 f2 f3 h4; subst f1 f2 f3 h4; rfl)
       clear h2
       go_upto_region 6 with fail
       have hbl := (Below.refl wr.heap.size wr).drew
       have HLz := Kp.mk (HL.out.step hbl)
       have HMz := Kp.mk (HM.out.step hbl)
       obtain ⟨k0z, k1z, k2z, k3z⟩ := HLz.out.cells hr
       obtain ⟨k4z, k5z, k6z, k7z⟩ := HMz.out.cells hx
       clear hbl
       refine wp_region_held_drew (S := fun w' => w'.cell? ⟨g, s + p * 4, none⟩ = some (.int .i8 r.f) ∧ w'.cell? ⟨g, s + p * 4 + 1, none⟩ = some (.int .i64 r.d) ∧ w'.cell? ⟨g, s + p * 4 + 2, none⟩ = some (.int .i8 r.g) ∧ w'.cell? ⟨g, s + p * 4 + 3, none⟩ = some (.int .i64 r.e) ∧ w'.cell? ⟨g2, s2 + p * 4, none⟩ = some (.int .i8 x.f) ∧ w'.cell? ⟨g2, s2 + p * 4 + 1, none⟩ = some (.int .i64 x.d) ∧ w'.cell? ⟨g2, s2 + p * 4 + 2, none⟩ = some (.int .i8 x.g) ∧ w'.cell? ⟨g2, s2 + p * 4 + 3, none⟩ = some (.int .i64 x.e)) (by kernel_rfl) ?_ (fun hHeld => ?_)
       ·with_reducible exact ⟨k0z, k1z, k2z, k3z, k4z, k5z, k6z, k7z⟩
       refine tk 0 ?_ rfl hHeld ?_ ?_
       rotate_left
       ·(intro w hSw; (try dsimp only at hSw); go_simp; try with_reducible rfl)
       try simp only [pt]
       refine tk 1 ?_ rfl hHeld ?_ ?_
       rotate_left
       ·(intro w hSw; (try dsimp only at hSw); go_simp; try with_reducible rfl)
       try simp only [pt]
       refine tk 2 ?_ rfl hHeld ?_ ?_
       rotate_left
       ·(intro w hSw; (try dsimp only at hSw); go_simp; try with_reducible rfl)
       try simp only [pt]
       refine tk 3 ?_ rfl hHeld ?_ ?_
       rotate_left
       ·(intro w hSw; (try dsimp only at hSw); go_simp; try with_reducible rfl)
       try simp only [pt]
       refine tk 4 ?_ rfl hHeld ?_ ?_
       rotate_left
       ·(intro w hSw; (try dsimp only at hSw); go_simp; try with_reducible rfl)
       try simp only [pt]
       refine tk 5 ?_ rfl hHeld ?_ ?_
       rotate_left
       ·(intro w hSw; (try dsimp only at hSw); go_simp; try with_reducible rfl)
       try simp only [pt]
       refine tk 6 ?_ rfl hHeld ?_ ?_
       rotate_left
       ·(intro w hSw; (try dsimp only at hSw); go_simp; try with_reducible rfl)
       try simp only [pt]
       refine tk 7 ?_ rfl hHeld ?_ ?_
       rotate_left
       ·(intro w hSw; (try dsimp only at hSw); go_simp; try with_reducible rfl)
       try simp only [pt]
       refine tk 8 ?_ rfl hHeld ?_ ?_
       rotate_left
       ·(intro w hSw; (try dsimp only at hSw); go_simp; try with_reducible rfl)
       try simp only [pt]
       refine wpAnyH_done (by kernel_rfl) ?_ _
       clear hHeld
       have HL := HLz
       have HM := HMz
       clear k0z k1z k2z k3z k4z k5z k6z k7z
       go_wp2_with fail
       go_ret
       exact ⟨rfl, HL.out.below⟩
      ·clear h2
       go_upto_region 6 with fail
       have hbl := (Below.refl wr.heap.size wr).drew
       have HLz := Kp.mk (HL.out.step hbl)
       have HMz := Kp.mk (HM.out.step hbl)
       obtain ⟨k0z, k1z, k2z, k3z⟩ := HLz.out.cells hr
       obtain ⟨k4z, k5z, k6z, k7z⟩ := HMz.out.cells hx
       clear hbl
       refine wp_region_held_drew (S := fun w' => w'.cell? ⟨g, s + p * 4, none⟩ = some (.int .i8 r.f) ∧ w'.cell? ⟨g, s + p * 4 + 1, none⟩ = some (.int .i64 r.d) ∧ w'.cell? ⟨g, s + p * 4 + 2, none⟩ = some (.int .i8 r.g) ∧ w'.cell? ⟨g, s + p * 4 + 3, none⟩ = some (.int .i64 r.e) ∧ w'.cell? ⟨g2, s2 + p * 4, none⟩ = some (.int .i8 x.f) ∧ w'.cell? ⟨g2, s2 + p * 4 + 1, none⟩ = some (.int .i64 x.d) ∧ w'.cell? ⟨g2, s2 + p * 4 + 2, none⟩ = some (.int .i8 x.g) ∧ w'.cell? ⟨g2, s2 + p * 4 + 3, none⟩ = some (.int .i64 x.e)) (by kernel_rfl) ?_ (fun hHeld => ?_)
       ·with_reducible exact ⟨k0z, k1z, k2z, k3z, k4z, k5z, k6z, k7z⟩
       refine tk 0 ?_ rfl hHeld ?_ ?_
       rotate_left
       ·(intro w hSw; (try dsimp only at hSw); go_simp; try with_reducible rfl)
       try simp only [pt]
       refine tk 1 ?_ rfl hHeld ?_ ?_
       rotate_left
       ·(intro w hSw; (try dsimp only at hSw); go_simp; try with_reducible rfl)
       try simp only [pt]
       refine tk 2 ?_ rfl hHeld ?_ ?_
       rotate_left
       ·(intro w hSw; (try dsimp only at hSw); go_simp; try with_reducible rfl)
       try simp only [pt]
       refine tk 3 ?_ rfl hHeld ?_ ?_
       rotate_left
       ·(intro w hSw; (try dsimp only at hSw); go_simp; try with_reducible rfl)
       try simp only [pt]
       refine tk 4 ?_ rfl hHeld ?_ ?_
       rotate_left
       ·(intro w hSw; (try dsimp only at hSw); go_simp; try with_reducible rfl)
       try simp only [pt]
       refine tk 5 ?_ rfl hHeld ?_ ?_
       rotate_left
       ·(intro w hSw; (try dsimp only at hSw); go_simp; try with_reducible rfl)
       try simp only [pt]
       refine tk 6 ?_ rfl hHeld ?_ ?_
       rotate_left
       ·(intro w hSw; (try dsimp only at hSw); go_simp; try with_reducible rfl)
       try simp only [pt]
       refine tk 7 ?_ rfl hHeld ?_ ?_
       rotate_left
       ·(intro w hSw; (try dsimp only at hSw); go_simp; try with_reducible rfl)
       try simp only [pt]
       refine tk 8 ?_ rfl hHeld ?_ ?_
       rotate_left
       ·(intro w hSw; (try dsimp only at hSw); go_simp; try with_reducible rfl)
       try simp only [pt]
       refine wpAnyH_done (by kernel_rfl) ?_ _
       clear hHeld
       have HL := HLz
       have HM := HMz
       clear k0z k1z k2z k3z k4z k5z k6z k7z
       go_wp2_with fail
       go_ret
       exact ⟨rfl, HL.out.below⟩
     ·clear h2
      go_upto_region 6 with fail
      have hbl := (Below.refl wr.heap.size wr).drew
      have HLz := Kp.mk (HL.out.step hbl)
      have HMz := Kp.mk (HM.out.step hbl)
      obtain ⟨k0z, k1z, k2z, k3z⟩ := HLz.out.cells hr
      obtain ⟨k4z, k5z, k6z, k7z⟩ := HMz.out.cells hx
      clear hbl
      refine wp_region_held_drew (S := fun w' => w'.cell? ⟨g, s + p * 4, none⟩ = some (.int .i8 r.f) ∧ w'.cell? ⟨g, s + p * 4 + 1, none⟩ = some (.int .i64 r.d) ∧ w'.cell? ⟨g, s + p * 4 + 2, none⟩ = some (.int .i8 r.g) ∧ w'.cell? ⟨g, s + p * 4 + 3, none⟩ = some (.int .i64 r.e) ∧ w'.cell? ⟨g2, s2 + p * 4, none⟩ = some (.int .i8 x.f) ∧ w'.cell? ⟨g2, s2 + p * 4 + 1, none⟩ = some (.int .i64 x.d) ∧ w'.cell? ⟨g2, s2 + p * 4 + 2, none⟩ = some (.int .i8 x.g) ∧ w'.cell? ⟨g2, s2 + p * 4 + 3, none⟩ = some (.int .i64 x.e)) (by kernel_rfl) ?_ (fun hHeld => ?_)
      ·with_reducible exact ⟨k0z, k1z, k2z, k3z, k4z, k5z, k6z, k7z⟩
      refine tk 0 ?_ rfl hHeld ?_ ?_
      rotate_left
      ·(intro w hSw; (try dsimp only at hSw); go_simp; try with_reducible rfl)
      try simp only [pt]
      refine tk 1 ?_ rfl hHeld ?_ ?_
      rotate_left
      ·(intro w hSw; (try dsimp only at hSw); go_simp; try with_reducible rfl)
      try simp only [pt]
      refine tk 2 ?_ rfl hHeld ?_ ?_
      rotate_left
      ·(intro w hSw; (try dsimp only at hSw); go_simp; try with_reducible rfl)
      try simp only [pt]
      refine tk 3 ?_ rfl hHeld ?_ ?_
      rotate_left
      ·(intro w hSw; (try dsimp only at hSw); go_simp; try with_reducible rfl)
      try simp only [pt]
      refine tk 4 ?_ rfl hHeld ?_ ?_
      rotate_left
      ·(intro w hSw; (try dsimp only at hSw); go_simp; try with_reducible rfl)
      try simp only [pt]
      refine tk 5 ?_ rfl hHeld ?_ ?_
      rotate_left
      ·(intro w hSw; (try dsimp only at hSw); go_simp; try with_reducible rfl)
      try simp only [pt]
      refine tk 6 ?_ rfl hHeld ?_ ?_
      rotate_left
      ·(intro w hSw; (try dsimp only at hSw); go_simp; try with_reducible rfl)
      try simp only [pt]
      refine tk 7 ?_ rfl hHeld ?_ ?_
      rotate_left
      ·(intro w hSw; (try dsimp only at hSw); go_simp; try with_reducible rfl)
      try simp only [pt]
      refine tk 8 ?_ rfl hHeld ?_ ?_
      rotate_left
      ·(intro w hSw; (try dsimp only at hSw); go_simp; try with_reducible rfl)
      try simp only [pt]
      refine wpAnyH_done (by kernel_rfl) ?_ _
      clear hHeld
      have HL := HLz
      have HM := HMz
      clear k0z k1z k2z k3z k4z k5z k6z k7z
      go_wp2_with fail
      go_ret
      exact ⟨rfl, HL.out.below⟩
    ·clear h2
     go_upto_region 6 with fail
     have hbl := (Below.refl wr.heap.size wr).drew
     have HLz := Kp.mk (HL.out.step hbl)
     have HMz := Kp.mk (HM.out.step hbl)
     obtain ⟨k0z, k1z, k2z, k3z⟩ := HLz.out.cells hr
     obtain ⟨k4z, k5z, k6z, k7z⟩ := HMz.out.cells hx
     clear hbl
     refine wp_region_held_drew (S := fun w' => w'.cell? ⟨g, s + p * 4, none⟩ = some (.int .i8 r.f) ∧ w'.cell? ⟨g, s + p * 4 + 1, none⟩ = some (.int .i64 r.d) ∧ w'.cell? ⟨g, s + p * 4 + 2, none⟩ = some (.int .i8 r.g) ∧ w'.cell? ⟨g, s + p * 4 + 3, none⟩ = some (.int .i64 r.e) ∧ w'.cell? ⟨g2, s2 + p * 4, none⟩ = some (.int .i8 x.f) ∧ w'.cell? ⟨g2, s2 + p * 4 + 1, none⟩ = some (.int .i64 x.d) ∧ w'.cell? ⟨g2, s2 + p * 4 + 2, none⟩ = some (.int .i8 x.g) ∧ w'.cell? ⟨g2, s2 + p * 4 + 3, none⟩ = some (.int .i64 x.e)) (by kernel_rfl) ?_ (fun hHeld => ?_)
     ·with_reducible exact ⟨k0z, k1z, k2z, k3z, k4z, k5z, k6z, k7z⟩
     refine tk 0 ?_ rfl hHeld ?_ ?_
     rotate_left
     ·(intro w hSw; (try dsimp only at hSw); go_simp; try with_reducible rfl)
     try simp only [pt]
     refine tk 1 ?_ rfl hHeld ?_ ?_
     rotate_left
     ·(intro w hSw; (try dsimp only at hSw); go_simp; try with_reducible rfl)
     try simp only [pt]
     refine tk 2 ?_ rfl hHeld ?_ ?_
     rotate_left
     ·(intro w hSw; (try dsimp only at hSw); go_simp; try with_reducible rfl)
     try simp only [pt]
     refine tk 3 ?_ rfl hHeld ?_ ?_
     rotate_left
     ·(intro w hSw; (try dsimp only at hSw); go_simp; try with_reducible rfl)
     try simp only [pt]
     refine tk 4 ?_ rfl hHeld ?_ ?_
     rotate_left
     ·(intro w hSw; (try dsimp only at hSw); go_simp; try with_reducible rfl)
     try simp only [pt]
     refine tk 5 ?_ rfl hHeld ?_ ?_
     rotate_left
     ·(intro w hSw; (try dsimp only at hSw); go_simp; try with_reducible rfl)
     try simp only [pt]
     refine tk 6 ?_ rfl hHeld ?_ ?_
     rotate_left
     ·(intro w hSw; (try dsimp only at hSw); go_simp; try with_reducible rfl)
     try simp only [pt]
     refine tk 7 ?_ rfl hHeld ?_ ?_
     rotate_left
     ·(intro w hSw; (try dsimp only at hSw); go_simp; try with_reducible rfl)
     try simp only [pt]
     refine tk 8 ?_ rfl hHeld ?_ ?_
     rotate_left
     ·(intro w hSw; (try dsimp only at hSw); go_simp; try with_reducible rfl)
     try simp only [pt]
     refine wpAnyH_done (by kernel_rfl) ?_ _
     clear hHeld
     have HL := HLz
     have HM := HMz
     clear k0z k1z k2z k3z k4z k5z k6z k7z
     go_wp2_with fail
     go_ret
     exact ⟨rfl, HL.out.below⟩
  ·obtain rfl : p = n := by omega
   rw [List.drop_of_length_le (by omega), List.drop_of_length_le (by omega)] at hq
   obtain rfl : true = c := by rw [← hq]; rfl
   go_wp2_with fail
   go_ret
   exact ⟨rfl, HL.out.below⟩
end Go.Proofs.YtndjcmclmhoigaaGreatDoor
namespace Go.Proofs.YtndjcmclmhoigaaGreatDoor
open Go.RowKit
set_option maxRecDepth 100000

variable {w W W' : World} {l : List Rn} {g : Nat} {x y : Int} {v : Value}
/-- how many days the runs have together -/
def cntS : List Rn → Int
 | [] => 0
 | r :: t => (1 + (r.e + -r.d)) + cntS t
theorem cnt_add (l : List Rn) (r : Rn) : cntS (l ++ [r]) = cntS l + (1 + (r.e + -r.d)) := by
 induction l with
 | nil => show 1 + (r.e + -r.d) + 0 = 0 + (1 + (r.e + -r.d)); omega
 | cons a t ih => show 1 + (a.e + -a.d) + cntS (t ++ [r]) = 1 + (a.e + -a.d) + cntS t + (1 + (r.e + -r.d)); rw [ih]; omega
theorem cnt_take {p : Nat} {r : Rn} (hr : l[p]? = some r) : cntS (l.take (p + 1)) = cntS (l.take p) + (1 + (r.e + -r.d)) := by
 rw [List.take_add_one, hr]
 exact cnt_add _ _
/-- no end is infinite -/
def FinR (l : List Rn) : Prop := ∀ r, r ∈ l → r.f = 0 ∧ r.g = 0
/-- the answer of Count for a right run set -/
structure CntR (l : List Rn) (n c : Int) : Prop where
 inf : ¬ FinR l → n = 0 ∧ c = 16
 fits : FinR l → cntS l ≤ 9223372036854775807 → n = cntS l ∧ c = 0
 over : FinR l → ¬ cntS l ≤ 9223372036854775807 → n = 0 ∧ c = 15
/-- a number of the reference -/
structure NmS (v : Value) (l : List Nat) (W : World) : Prop where
 dg : R1.Digs W v l
theorem NmS.step {l : List Nat} (h : NmS v l W) (hb : Below W.heap.size W W') : NmS v l W' := ⟨h.dg.below hb⟩
/-- a number in a block -/
structure Nb (w : World) (g : Nat) (x : Int) (v : Value) (W : World) : Prop where
 below : Below w.heap.size w W
 base : w.heap.size ≤ g
 heap : W.heap[g]? = some (.cells #[.bool (decide (x < 0)), v] 118 (0, 0))
 dgs : R1.Digs W v (dg x.natAbs)
theorem Nb.lt (h : Nb w g x v W) : g < W.heap.size := (Array.getElem?_eq_some_iff.1 h.heap).1
theorem Nb.step (h : Nb w g x v W) (hb : Below W.heap.size W W') : Nb w g x v W' := ⟨h.below.trans (hb.mono h.below.size), h.base, by rw [hb.block _ h.lt]; exact h.heap, h.dgs.below hb⟩
theorem Nb.c0 (h : Nb w g x v W) : W.cell? ⟨g, 0, none⟩ = some (.bool (decide (x < 0))) := by rw [cell_of_row W _ 0 _ _ _ h.heap]; rfl
theorem Nb.c1 (h : Nb w g x v W) : W.cell? ⟨g, 1, none⟩ = some v := by rw [cell_of_row W _ 1 _ _ _ h.heap]; rfl
theorem Nb.two (h : Nb w g x v W) : W.cell? ⟨g, 0, none⟩ = some (.bool (decide (x < 0))) ∧ W.cell? ⟨g, 1, none⟩ = some v := ⟨h.c0, h.c1⟩
theorem digs_setRow {ds : List Nat} {cs : Array Value} (h : R1.Digs W v ds) (hn : ∀ p n c, v = .slice (some p) n c → p.block ≠ g) : R1.Digs (W.setRow g cs) v ds := by
 rcases h with h | ⟨b, cap, h1, h2, h3, h4, h5, h6⟩
 ·exact .inl h
 ·refine .inr ⟨b, cap, h1, by simpa [World.setRow] using h2, h3, h4, h5, fun i hi => ?_⟩
  have hb : b ≠ g := hn _ _ _ h1
  have := h6 i hi
  unfold World.cell? at this ⊢
  rw [setRow_other W g b cs hb]
  exact this
theorem Nb.put {u : Value} (h : Nb w g x v W) (hd : R1.Digs W u (dg y.natAbs)) (hn : ∀ p n c, u = .slice (some p) n c → p.block ≠ g) : Nb w g y u (W.setRow g #[.bool (decide (y < 0)), u]) :=
 ⟨below_setRow h.below h.base _, h.base, setRow_heap _ _ _ _ _ _ h.heap, digs_setRow hd hn⟩
end Go.Proofs.YtndjcmclmhoigaaGreatDoor
