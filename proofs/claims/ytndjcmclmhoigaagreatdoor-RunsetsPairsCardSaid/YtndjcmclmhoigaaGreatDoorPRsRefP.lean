/-
 DERIVED. CONTRACT of the reference of layer 10 (runsets): put. Written by mkrsput.py.
-/
import Derived.Test.YtndjcmclmhoigaaGreatDoorPA4
import Derived.Test.YtndjcmclmhoigaaGreatDoorPA5
namespace Go.Proofs.YtndjcmclmhoigaaGreatDoor
open Go.RowKit
set_option maxRecDepth 100000

variable {w W W' : World} {a : Option Addr} {l : List Rn} {r : Rn}
def lenOf : Value → Nat
 | .slice _ n _ => n
 | _ => 0
theorem ro_run (w : World) (r : Rn) : Ro w w.heap.size r (w.alloc (.cells #[.int .i8 r.f, .int .i64 r.d, .int .i8 r.g, .int .i64 r.e] 26)) := ⟨(Below.refl w.heap.size w).alloc (Nat.le_refl _) _, Nat.le_refl _, heap_alloc_new _ _⟩
theorem Lr.lq (h : Lr w a l w) : Lq w w.heap.size a l w := ⟨h, fun hl ad e => by
 obtain ⟨x, t, rfl⟩ := List.exists_cons_of_ne_nil hl
 obtain ⟨g, o, e2, hg, _⟩ := h.at4 0 x rfl
 rw [e] at e2
 injection e2 with e2
 subst e2
 show g ≠ w.heap.size
 omega⟩
/-- the last of the first p that touches a run, or -1 -/
def AtTo (l : List Rn) (r : Rn) (p : Nat) (z : Int) : Prop := (z = -1 ∧ ∀ j q, j < p → l[j]? = some q → touchN q r = false) ∨ (∃ k q, z = ((k : Nat) : Int) ∧ k < l.length ∧ l[k]? = some q ∧ touchN q r = true)
theorem at_none {l : List Rn} {r x : Rn} {p : Nat} {z : Int} (h : AtTo l r p z) (hx : l[p]? = some x) (ht : touchN x r = false) : AtTo l r (p + 1) z := by
 rcases h with ⟨h1, h2⟩ | h
 ·refine .inl ⟨h1, fun j q hj hq => ?_⟩
  by_cases e : j < p
  ·exact h2 j q e hq
  ·obtain rfl : j = p := by omega
   rw [hx] at hq
   injection hq with hq
   exact hq ▸ ht
 ·exact .inr h
theorem er_step {k p : Nat} {x : Rn} (hx : l[p]? = some x) (h : ¬ p = k) : (l.take (p + 1)).eraseIdx k = (l.take p).eraseIdx k ++ [x] := by
 have hp := (List.getElem?_eq_some_iff.1 hx).1
 rw [List.take_add_one, hx]
 show (l.take p ++ [x]).eraseIdx k = _
 have hlen : (l.take p).length = p := by rw [List.length_take]; omega
 by_cases e : k < p
 ·rw [List.eraseIdx_append_of_lt_length (by omega)]
 ·rw [List.eraseIdx_of_length_le (l := l.take p ++ [x]) (by rw [List.length_append, hlen]; show p + 1 ≤ k; omega), List.eraseIdx_of_length_le (l := l.take p) (by omega)]
theorem er_skip {k : Nat} {x : Rn} (hx : l[k]? = some x) : (l.take (k + 1)).eraseIdx k = (l.take k).eraseIdx k := by
 have hp := (List.getElem?_eq_some_iff.1 hx).1
 rw [List.take_add_one, hx]
 show (l.take k ++ [x]).eraseIdx k = _
 have hlen : (l.take k).length = k := by rw [List.length_take]; omega
 rw [List.eraseIdx_append_of_length_le (by omega), hlen, Nat.sub_self, List.eraseIdx_of_length_le (l := l.take k) (by omega)]
 show l.take k ++ [] = _
 rw [List.append_nil]
theorem ins_cons (r a : Rn) (t : List Rn) : insR r (a :: t) = if cmpR r a < 0 then r :: a :: t else a :: insR r t := rfl
theorem ins_len (r : Rn) : ∀ l : List Rn, (insR r l).length = l.length + 1
 | [] => rfl
 | a :: t => by
  unfold insR
  split
  ·rfl
  ·show (insR r t).length + 1 = _; rw [ins_len r t]; rfl
theorem Ro.four {g : Nat} (h : Ro w g r W) : W.cell? ⟨g, 0, none⟩ = some (.int .i8 r.f) ∧ W.cell? ⟨g, 1, none⟩ = some (.int .i64 r.d) ∧ W.cell? ⟨g, 2, none⟩ = some (.int .i8 r.g) ∧ W.cell? ⟨g, 3, none⟩ = some (.int .i64 r.e) := ⟨h.c0, h.c1, h.c2, h.c3⟩
/-- what is known of the list and the run, all along -/
structure Pt (l l1 : List Rn) (r r1 : Rn) : Prop where
 can : RsCan l1
 ok : r1.Ok
 mem : ∀ x, (memR l1 x ∨ r1.has x) ↔ (memR l x ∨ r.has x)
set_option maxHeartbeats 16000000 in
theorem refSPut_is {cap : Nat} (hl : RsCan l) (hr : r.Ok) (hn : l.length ≤ 1000000000) (al : Lr w a l w) :
 Calls Tryz.prog 119 #[.slice a l.length cap, .agg #[.int .i8 r.f, .int .i64 r.d, .int .i8 r.g, .int .i64 r.e]] w fun x w' =>
  (∃ m b p, x = .returned (.slice b (List.length m) p) ∧ IsRs m (fun x => memR l x ∨ r.has x) ∧ m.length ≤ l.length + 1 ∧ Lr w b m w') ∧ Below w.heap.size w w' := by
 obtain ⟨i0, hi0, hz0, hz1, hz2⟩ := infoRn4
 have HR := Kp.mk (ro_run w r)
 have HL := Kp.mk (al.lq.step ((Below.refl w.heap.size w).alloc (Nat.le_refl _) (.cells #[.int .i8 r.f, .int .i64 r.d, .int .i8 r.g, .int .i64 r.e] 26)))
 have HS : Kp (Pt l l r r) := Kp.mk ⟨hl, hr, fun _ => Iff.rfl⟩
 clear hl hr al
 obtain ⟨n0, hn0⟩ : ∃ n, l.length = n := ⟨_, rfl⟩
 go_enter Tryz.func119, Tryz.ntmps119
 go_upto_region 1 with fail
 generalize (w.alloc (.cells #[.int .i8 r.f, .int .i64 r.d, .int .i8 r.g, .int .i64 r.e] 26)) = w0 at *
 go_loopw [0, 5, 6, 7, 8] (fun v0 _ _ _ _ wr => ∃ (l1 : List Rn) (r1 : Rn) (a1 : Option Addr) (c1 : Nat), v0 = .slice a1 l1.length c1 ∧ l1.length ≤ n0 ∧ Kp (Pt l l1 r r1) ∧ Kp (Lq w w.heap.size a1 l1 wr) ∧ Kp (Ro w w.heap.size r1 wr)) (fun v0 _ _ _ _ _ => lenOf v0)
 case atStart => exact ⟨l, r, a, cap, by rw [hn0], by omega, HS, HL, HR⟩
 case round =>
  obtain ⟨l1, r1, a1, c1, rfl, hn1, HS, HL, HR⟩ := hrel
  obtain ⟨n, hnn⟩ : ∃ n, l1.length = n := ⟨_, rfl⟩
  rw [hnn] at hn1 ⊢
  go_wp2_with fail
  go_loopw [5, 6] (fun e i wr => ∃ (p : Nat) (z : Int), p ≤ n ∧ i = .int .i64 (p : Int) ∧ e = .int .i64 z ∧ Kp (AtTo l1 r1 p z) ∧ Kp (Lq w w.heap.size a1 l1 wr) ∧ Kp (Ro w w.heap.size r1 wr)) (fun _ i _ => n - (intOf i).toNat)
  case atStart => exact ⟨0, -1, by omega, rfl, rfl, ⟨.inl ⟨rfl, fun j q h _ => by omega⟩⟩, HL, HR⟩
  case round =>
   obtain ⟨p, z, hp, rfl, rfl, HZ, HL, HR⟩ := hrel
   by_cases h1 : p < n
   ·have t1 : decide ((p : Int) < (n : Int)) = true := decide_eq_true (by omega)
    have b1 : (p : Int) < (n : Int) := by omega
    obtain ⟨x, hx⟩ : ∃ x, l1[p]? = some x := ⟨l1[p]'(by omega), List.getElem?_eq_getElem (by omega)⟩
    obtain ⟨g, s, rfl⟩ := HL.out.lr.place hx
    have hxo := HS.out.can.ok x (List.mem_of_getElem? hx)
    have wp1 : IntKind.i64.wrap ((p : Int) + 1) = (p : Int) + 1 := IntWalk.i64_in _ (by omega)
    obtain ⟨t, ht⟩ : ∃ t, decide (x.lo ≤ r1.hi + 1 ∧ r1.lo ≤ x.hi + 1) = t := ⟨_, rfl⟩
    have rt := Kp.mk (fun w => refTouch_is hxo HS.out.ok ht w)
    have ht2 : touchN x r1 = t := by rw [← ht, Bool.eq_iff_iff, touch_iff hxo HS.out.ok, decide_eq_true_iff]
    clear ht hxo
    cases t with
    | true =>
     have HZ : Kp (AtTo l1 r1 (p + 1) (p : Int)) := Kp.mk (.inr ⟨p, x, rfl, by omega, hx, ht2⟩)
     clear ht2
     go_upto_region 5 with fail
     have hbl := (Below.refl wr.heap.size wr).drew
     have HLz := Kp.mk (HL.out.step hbl)
     have HRz := Kp.mk (HR.out.step hbl)
     obtain ⟨k0z, k1z, k2z, k3z⟩ := HLz.out.lr.cells hx
     obtain ⟨k4z, k5z, k6z, k7z⟩ := HRz.out.four
     clear hbl
     refine wp_region_held_drew (S := fun w' => w'.cell? ⟨g, s + p * 4, none⟩ = some (.int .i8 x.f) ∧ w'.cell? ⟨g, s + p * 4 + 1, none⟩ = some (.int .i64 x.d) ∧ w'.cell? ⟨g, s + p * 4 + 2, none⟩ = some (.int .i8 x.g) ∧ w'.cell? ⟨g, s + p * 4 + 3, none⟩ = some (.int .i64 x.e) ∧ w'.cell? ⟨w.heap.size, 0, none⟩ = some (.int .i8 r1.f) ∧ w'.cell? ⟨w.heap.size, 1, none⟩ = some (.int .i64 r1.d) ∧ w'.cell? ⟨w.heap.size, 2, none⟩ = some (.int .i8 r1.g) ∧ w'.cell? ⟨w.heap.size, 3, none⟩ = some (.int .i64 r1.e)) (by kernel_rfl) ?_ (fun hHeld => ?_)
     ·with_reducible exact ⟨k0z, k1z, k2z, k3z, k4z, k5z, k6z, k7z⟩
     refine tk 0 ?_ rfl hHeld ?_ ?_
     rotate_left
     ·(intro w hSw; (try dsimp only at hSw); go_simp; try with_reducible rfl)
     try simp only [pt]
     refine tk 1 ?_ rfl hHeld ?_ ?_
     rotate_left
     ·(intro w hSw; (try dsimp only at hSw); go_simp; try with_reducible rfl)
     try simp only [pt]
     refine tk 2 ?_ rfl hHeld ?_ ?_
     rotate_left
     ·(intro w hSw; (try dsimp only at hSw); go_simp; try with_reducible rfl)
     try simp only [pt]
     refine tk 3 ?_ rfl hHeld ?_ ?_
     rotate_left
     ·(intro w hSw; (try dsimp only at hSw); go_simp; try with_reducible rfl)
     try simp only [pt]
     refine tk 4 ?_ rfl hHeld ?_ ?_
     rotate_left
     ·(intro w hSw; (try dsimp only at hSw); go_simp; try with_reducible rfl)
     try simp only [pt]
     refine rd [5] ?_
     refine AllReadyH.cons (dropAt rfl) (fun K hK => ?_) AllReadyH.nil
     go_simp
     go_at_call 18
     with_reducible refine (rt.out _).mono ?_
     rintro e y1 ⟨rfl, hb⟩
     have HL_y1 := Kp.mk (HLz.out.step hb)
     have HR_y1 := Kp.mk (HRz.out.step hb)
     obtain ⟨k0_y1, k1_y1, k2_y1, k3_y1⟩ := HL_y1.out.lr.cells hx
     obtain ⟨k4_y1, k5_y1, k6_y1, k7_y1⟩ := HR_y1.out.four
     clear hHeld k0z k1z k2z k3z k4z k5z k6z k7z HLz HRz hb
     go_wp2_with fail
     refine hK.out _ _ ?_ (fun hHeld => ?_)
     ·with_reducible exact ⟨k0_y1, k1_y1, k2_y1, k3_y1, k4_y1, k5_y1, k6_y1, k7_y1⟩
     clear hK K
     try simp only [pt]
     refine wpAnyH_done (by kernel_rfl) ?_ _
     clear hHeld
     have HL := HL_y1
     have HR := HR_y1
     clear k0_y1 k1_y1 k2_y1 k3_y1 k4_y1 k5_y1 k6_y1 k7_y1
     go_wp2_with fail
     go_roundw
     case rel => exact ⟨p + 1, (p : Int), by omega, by go_num, rfl, HZ, HL, HR⟩
     case measure => simp [intOf]; omega
    | false =>
     have HZ := Kp.mk (at_none HZ.out hx ht2)
     clear ht2
     go_upto_region 5 with fail
     have hbl := (Below.refl wr.heap.size wr).drew
     have HLz := Kp.mk (HL.out.step hbl)
     have HRz := Kp.mk (HR.out.step hbl)
     obtain ⟨k0z, k1z, k2z, k3z⟩ := HLz.out.lr.cells hx
     obtain ⟨k4z, k5z, k6z, k7z⟩ := HRz.out.four
     clear hbl
     refine wp_region_held_drew (S := fun w' => w'.cell? ⟨g, s + p * 4, none⟩ = some (.int .i8 x.f) ∧ w'.cell? ⟨g, s + p * 4 + 1, none⟩ = some (.int .i64 x.d) ∧ w'.cell? ⟨g, s + p * 4 + 2, none⟩ = some (.int .i8 x.g) ∧ w'.cell? ⟨g, s + p * 4 + 3, none⟩ = some (.int .i64 x.e) ∧ w'.cell? ⟨w.heap.size, 0, none⟩ = some (.int .i8 r1.f) ∧ w'.cell? ⟨w.heap.size, 1, none⟩ = some (.int .i64 r1.d) ∧ w'.cell? ⟨w.heap.size, 2, none⟩ = some (.int .i8 r1.g) ∧ w'.cell? ⟨w.heap.size, 3, none⟩ = some (.int .i64 r1.e)) (by kernel_rfl) ?_ (fun hHeld => ?_)
     ·with_reducible exact ⟨k0z, k1z, k2z, k3z, k4z, k5z, k6z, k7z⟩
     refine tk 0 ?_ rfl hHeld ?_ ?_
     rotate_left
     ·(intro w hSw; (try dsimp only at hSw); go_simp; try with_reducible rfl)
     try simp only [pt]
     refine tk 1 ?_ rfl hHeld ?_ ?_
     rotate_left
     ·(intro w hSw; (try dsimp only at hSw); go_simp; try with_reducible rfl)
     try simp only [pt]
     refine tk 2 ?_ rfl hHeld ?_ ?_
     rotate_left
     ·(intro w hSw; (try dsimp only at hSw); go_simp; try with_reducible rfl)
     try simp only [pt]
     refine tk 3 ?_ rfl hHeld ?_ ?_
     rotate_left
     ·(intro w hSw; (try dsimp only at hSw); go_simp; try with_reducible rfl)
     try simp only [pt]
     refine tk 4 ?_ rfl hHeld ?_ ?_
     rotate_left
     ·(intro w hSw; (try dsimp only at hSw); go_simp; try with_reducible rfl)
     try simp only [pt]
     refine rd [5] ?_
     refine AllReadyH.cons (dropAt rfl) (fun K hK => ?_) AllReadyH.nil
     go_simp
     go_at_call 18
     with_reducible refine (rt.out _).mono ?_
     rintro e y1 ⟨rfl, hb⟩
     have HL_y1 := Kp.mk (HLz.out.step hb)
     have HR_y1 := Kp.mk (HRz.out.step hb)
     obtain ⟨k0_y1, k1_y1, k2_y1, k3_y1⟩ := HL_y1.out.lr.cells hx
     obtain ⟨k4_y1, k5_y1, k6_y1, k7_y1⟩ := HR_y1.out.four
     clear hHeld k0z k1z k2z k3z k4z k5z k6z k7z HLz HRz hb
     go_wp2_with fail
     refine hK.out _ _ ?_ (fun hHeld => ?_)
     ·with_reducible exact ⟨k0_y1, k1_y1, k2_y1, k3_y1, k4_y1, k5_y1, k6_y1, k7_y1⟩
     clear hK K
     try simp only [pt]
     refine wpAnyH_done (by kernel_rfl) ?_ _
     clear hHeld
     have HL := HL_y1
     have HR := HR_y1
     clear k0_y1 k1_y1 k2_y1 k3_y1 k4_y1 k5_y1 k6_y1 k7_y1
     go_wp2_with fail
     go_roundw
     case rel => exact ⟨p + 1, z, by omega, by go_num, rfl, HZ, HL, HR⟩
     case measure => simp [intOf]; omega
   ·obtain rfl : p = n := by omega
    have HZ' := HZ.out
    clear HZ h1
    rcases HZ' with ⟨rfl, hno⟩ | ⟨k, y, rfl, hk, hy, hty⟩
    ·have HN := Kp.mk hno
     clear hno
     have hfin : IsRs (insR r1 l1) (fun x => memR l x ∨ r.has x) := ⟨ins_can HS.out.ok HS.out.can (fun b hb => by
      obtain ⟨j, hj, e⟩ := List.mem_iff_getElem.1 hb
      exact HN.out j b (by omega) (by rw [List.getElem?_eq_getElem hj, e])), fun x => (ins_has x).trans (HS.out.mem x)⟩
     clear HN
     obtain ⟨u4, rfl⟩ : ∃ u4, u4 = wr := ⟨_, rfl⟩
     go_wp2_with fail
     have HA := Kp.mk (ag_new u4)
     go_loopw [9, 10, 11] (fun v d i wr => ∃ (q : Nat) (os : List Rn) (b : Bool) (v' : Value), q ≤ p ∧ i = .int .i64 (q : Int) ∧ d = .bool b ∧ v' = v ∧ os.length ≤ q + b.toNat ∧ insR r1 l1 = os ++ (if b = true then l1.drop q else insR r1 (l1.drop q)) ∧ Kp (Ag u4 os v' wr)) (fun _ _ i _ => p - (intOf i).toNat)
     case atStart => exact ⟨0, [], false, _, by omega, rfl, rfl, rfl, by simp, by simp, HA⟩
     case round =>
      obtain ⟨q, os, b, v, hq, rfl, rfl, rfl, hlen, hins, HA⟩ := hrel
      by_cases h1 : q < p
      ·have t1 : decide ((q : Int) < (p : Int)) = true := decide_eq_true (by omega)
       have b3 : (q : Int) < (p : Int) := by omega
       have wq1 : IntKind.i64.wrap ((q : Int) + 1) = (q : Int) + 1 := IntWalk.i64_in _ (by omega)
       obtain ⟨x, hx⟩ : ∃ x, l1[q]? = some x := ⟨l1[q]'(by omega), List.getElem?_eq_getElem (by omega)⟩
       obtain ⟨g, s, rfl⟩ := HL.out.lr.place hx
       rw [drop_at hx] at hins
       cases b with
       | true =>
        rw [if_pos rfl] at hins
        have hlen : os.length ≤ q + 1 := hlen
        go_upto_region 21 with fail
        have hbl := (Below.refl wr.heap.size wr).drew
        have HAz := Kp.mk (HA.out.step hbl)
        obtain ⟨k0z, k1z, k2z, k3z⟩ := (HL.out.step HAz.out.below).lr.cells hx
        obtain ⟨k4z, k5z, k6z, k7z⟩ := (HR.out.step HAz.out.below).four
        clear hbl
        refine wp_region_held_drew (S := fun w' => w'.cell? ⟨g, s + q * 4, none⟩ = some (.int .i8 x.f) ∧ w'.cell? ⟨g, s + q * 4 + 1, none⟩ = some (.int .i64 x.d) ∧ w'.cell? ⟨g, s + q * 4 + 2, none⟩ = some (.int .i8 x.g) ∧ w'.cell? ⟨g, s + q * 4 + 3, none⟩ = some (.int .i64 x.e) ∧ w'.cell? ⟨w.heap.size, 0, none⟩ = some (.int .i8 r1.f) ∧ w'.cell? ⟨w.heap.size, 1, none⟩ = some (.int .i64 r1.d) ∧ w'.cell? ⟨w.heap.size, 2, none⟩ = some (.int .i8 r1.g) ∧ w'.cell? ⟨w.heap.size, 3, none⟩ = some (.int .i64 r1.e)) (by kernel_rfl) ?_ (fun hHeld => ?_)
        ·with_reducible exact ⟨k0z, k1z, k2z, k3z, k4z, k5z, k6z, k7z⟩
        refine tk 0 ?_ rfl hHeld ?_ ?_
        rotate_left
        ·(intro w hSw; (try dsimp only at hSw); go_simp; try with_reducible rfl)
        try simp only [pt]
        refine tk 1 ?_ rfl hHeld ?_ ?_
        rotate_left
        ·(intro w hSw; (try dsimp only at hSw); go_simp; try with_reducible rfl)
        try simp only [pt]
        refine tk 2 ?_ rfl hHeld ?_ ?_
        rotate_left
        ·(intro w hSw; (try dsimp only at hSw); go_simp; try with_reducible rfl)
        try simp only [pt]
        refine takeOut (i := 3) rfl (by kernel_rfl) (by kernel_rfl) (by kernel_rfl) (fun _ _ _ h => h) (by rfl) hHeld ?_
        try simp only [pt]
        refine takeOut (i := 4) rfl (by kernel_rfl) (by kernel_rfl) (by kernel_rfl) (fun _ _ _ h => h) (by rfl) hHeld ?_
        try simp only [pt]
        refine takeOut (i := 5) rfl (by kernel_rfl) (by kernel_rfl) (by kernel_rfl) (fun _ _ _ h => h) (by rfl) hHeld ?_
        try simp only [pt]
        refine takeOut (i := 6) rfl (by kernel_rfl) (by kernel_rfl) (by kernel_rfl) (fun _ _ _ h => h) (by rfl) hHeld ?_
        try simp only [pt]
        refine takeOut (i := 7) rfl (by kernel_rfl) (by kernel_rfl) (by kernel_rfl) (fun _ _ _ h => h) (by rfl) hHeld ?_
        try simp only [pt]
        refine takeOut (i := 8) rfl (by kernel_rfl) (by kernel_rfl) (by kernel_rfl) (fun _ _ _ h => h) (by rfl) hHeld ?_
        try simp only [pt]
        refine takeOut (i := 9) rfl (by kernel_rfl) (by kernel_rfl) (by kernel_rfl) (fun _ _ _ h => h) (by rfl) hHeld ?_
        try simp only [pt]
        refine tk 10 ?_ rfl hHeld ?_ ?_
        rotate_left
        ·(intro w hSw; (try dsimp only at hSw); go_simp; try with_reducible rfl)
        try simp only [pt]
        refine wpAnyH_done (by kernel_rfl) ?_ _
        clear hHeld
        have HA := HAz
        clear k0z k1z k2z k3z k4z k5z k6z k7z
        generalize wr.drew = wt at *
        obtain ⟨k0, k1, k2, k3⟩ := (HL.out.step HA.out.below).lr.cells hx
        go_wp2_with (at_builtin; refine wpList_append_own _ rfl (.tmp 71) (.tmp 76) 60 rfl u4.heap.size 26 i0 (.agg #[.int .i8 0, .int .i64 0, .int .i8 0, .int .i64 0]) 4 32 Tryz.underlying60 hi0 hz0 hz1 hz2 rfl (by decide) v os.length (vL os) rfl (HA.out.own.alloc _) ⟨wt.heap.size, 0, none⟩ 1 1 [.int .i8 x.f, .int .i64 x.d, .int .i8 x.g, .int .i64 x.e] rfl rfl (four_row _ _ _ _ _ _) (by intro u hu; simp at hu; rcases hu with rfl | rfl | rfl | rfl <;> rfl) (by unfold maxLen; omega) (by omega) (by have := HA.out.below.size; simp; omega) ?_)
        intro vn wn hown hgrow _
        have HA := Kp.mk (HA.out.add (r := x) ((Below.refl wt.heap.size wt).alloc (Nat.le_refl _) (.cells #[.int .i8 x.f, .int .i64 x.d, .int .i8 x.g, .int .i64 x.e] 26)) hown hgrow)
        clear hown hgrow
        clear k0 k1 k2 k3
        go_wp2_with fail
        go_roundw
        case rel => exact ⟨q + 1, os ++ [x], true, _, by omega, by go_num, rfl, rfl, by simp; omega, by rw [hins]; simp, HA⟩
        case measure => simp [intOf]; omega
       | false =>
        rw [if_neg (by decide)] at hins
        have hlen : os.length ≤ q := hlen
        rw [ins_cons] at hins
        obtain ⟨c, hc⟩ : ∃ c, cmpR r1 x = c := ⟨_, rfl⟩
        have rm := Kp.mk (fun w => refRCmp_is hc w)
        rw [hc] at hins
        clear hc
        by_cases h2 : c < 0
        ·rw [if_pos h2] at hins
         have t2 : decide (c < 0) = true := decide_eq_true h2
         go_upto_region 21 with fail
         have hbl := (Below.refl wr.heap.size wr).drew
         have HAz := Kp.mk (HA.out.step hbl)
         obtain ⟨k0z, k1z, k2z, k3z⟩ := (HL.out.step HAz.out.below).lr.cells hx
         obtain ⟨k4z, k5z, k6z, k7z⟩ := (HR.out.step HAz.out.below).four
         clear hbl
         refine wp_region_held_drew (S := fun w' => w'.cell? ⟨g, s + q * 4, none⟩ = some (.int .i8 x.f) ∧ w'.cell? ⟨g, s + q * 4 + 1, none⟩ = some (.int .i64 x.d) ∧ w'.cell? ⟨g, s + q * 4 + 2, none⟩ = some (.int .i8 x.g) ∧ w'.cell? ⟨g, s + q * 4 + 3, none⟩ = some (.int .i64 x.e) ∧ w'.cell? ⟨w.heap.size, 0, none⟩ = some (.int .i8 r1.f) ∧ w'.cell? ⟨w.heap.size, 1, none⟩ = some (.int .i64 r1.d) ∧ w'.cell? ⟨w.heap.size, 2, none⟩ = some (.int .i8 r1.g) ∧ w'.cell? ⟨w.heap.size, 3, none⟩ = some (.int .i64 r1.e)) (by kernel_rfl) ?_ (fun hHeld => ?_)
         ·with_reducible exact ⟨k0z, k1z, k2z, k3z, k4z, k5z, k6z, k7z⟩
         refine tk 0 ?_ rfl hHeld ?_ ?_
         rotate_left
         ·(intro w hSw; (try dsimp only at hSw); go_simp; try with_reducible rfl)
         try simp only [pt]
         refine tk 1 ?_ rfl hHeld ?_ ?_
         rotate_left
         ·(intro w hSw; (try dsimp only at hSw); go_simp; try with_reducible rfl)
         try simp only [pt]
         refine tk 2 ?_ rfl hHeld ?_ ?_
         rotate_left
         ·(intro w hSw; (try dsimp only at hSw); go_simp; try with_reducible rfl)
         try simp only [pt]
         refine tk 3 ?_ rfl hHeld ?_ ?_
         rotate_left
         ·(intro w hSw; (try dsimp only at hSw); go_simp; try with_reducible rfl)
         try simp only [pt]
         refine tk 4 ?_ rfl hHeld ?_ ?_
         rotate_left
         ·(intro w hSw; (try dsimp only at hSw); go_simp; try with_reducible rfl)
         try simp only [pt]
         refine tk 5 ?_ rfl hHeld ?_ ?_
         rotate_left
         ·(intro w hSw; (try dsimp only at hSw); go_simp; try with_reducible rfl)
         try simp only [pt]
         refine tk 6 ?_ rfl hHeld ?_ ?_
         rotate_left
         ·(intro w hSw; (try dsimp only at hSw); go_simp; try with_reducible rfl)
         try simp only [pt]
         refine tk 7 ?_ rfl hHeld ?_ ?_
         rotate_left
         ·(intro w hSw; (try dsimp only at hSw); go_simp; try with_reducible rfl)
         try simp only [pt]
         refine rd [8] ?_
         refine AllReadyH.cons (dropAt rfl) (fun K hK => ?_) AllReadyH.nil
         go_simp
         go_at_call 17
         with_reducible refine (rm.out _).mono ?_
         rintro e y1 ⟨rfl, hb⟩
         have HA_y1 := Kp.mk (HAz.out.step hb)
         obtain ⟨k0_y1, k1_y1, k2_y1, k3_y1⟩ := (HL.out.step HA_y1.out.below).lr.cells hx
         obtain ⟨k4_y1, k5_y1, k6_y1, k7_y1⟩ := (HR.out.step HA_y1.out.below).four
         clear hHeld k0z k1z k2z k3z k4z k5z k6z k7z HAz hb
         go_wp2_with fail
         refine hK.out _ _ ?_ (fun hHeld => ?_)
         ·with_reducible exact ⟨k0_y1, k1_y1, k2_y1, k3_y1, k4_y1, k5_y1, k6_y1, k7_y1⟩
         clear hK K
         try simp only [pt]
         refine tk 9 ?_ rfl hHeld ?_ ?_
         rotate_left
         ·(intro w hSw; (try dsimp only at hSw); go_simp; try with_reducible rfl)
         try simp only [pt]
         refine tk 10 ?_ rfl hHeld ?_ ?_
         rotate_left
         ·(intro w hSw; (try dsimp only at hSw); go_simp; try with_reducible rfl)
         try simp only [pt]
         refine wpAnyH_done (by kernel_rfl) ?_ _
         clear hHeld
         have HA := HA_y1
         clear k0_y1 k1_y1 k2_y1 k3_y1 k4_y1 k5_y1 k6_y1 k7_y1
         generalize y1 = wt at *
         obtain ⟨k0, k1, k2, k3⟩ := (HR.out.step HA.out.below).four
         go_wp2_with (at_builtin; refine wpList_append_own _ rfl (.tmp 67) (.tmp 69) 60 rfl u4.heap.size 26 i0 (.agg #[.int .i8 0, .int .i64 0, .int .i8 0, .int .i64 0]) 4 32 Tryz.underlying60 hi0 hz0 hz1 hz2 rfl (by decide) v os.length (vL os) rfl (HA.out.own.alloc _) ⟨wt.heap.size, 0, none⟩ 1 1 [.int .i8 r1.f, .int .i64 r1.d, .int .i8 r1.g, .int .i64 r1.e] rfl rfl (four_row _ _ _ _ _ _) (by intro u hu; simp at hu; rcases hu with rfl | rfl | rfl | rfl <;> rfl) (by unfold maxLen; omega) (by omega) (by have := HA.out.below.size; simp; omega) ?_)
         intro vn wn hown hgrow _
         have HA := Kp.mk (HA.out.add (r := r1) ((Below.refl wt.heap.size wt).alloc (Nat.le_refl _) (.cells #[.int .i8 r1.f, .int .i64 r1.d, .int .i8 r1.g, .int .i64 r1.e] 26)) hown hgrow)
         clear hown hgrow
         clear k0 k1 k2 k3
         have hl5 : (os ++ [r1]).length ≤ q + 1 := by simp; omega
         obtain ⟨k0, k1, k2, k3⟩ := (HL.out.step HA.out.below).lr.cells hx
         go_wp2_with (at_builtin; refine wpList_append_own _ rfl (.tmp 71) (.tmp 76) 60 rfl u4.heap.size 26 i0 (.agg #[.int .i8 0, .int .i64 0, .int .i8 0, .int .i64 0]) 4 32 Tryz.underlying60 hi0 hz0 hz1 hz2 rfl (by decide) vn (os ++ [r1]).length (vL (os ++ [r1])) rfl (HA.out.own.alloc _) ⟨wn.heap.size, 0, none⟩ 1 1 [.int .i8 x.f, .int .i64 x.d, .int .i8 x.g, .int .i64 x.e] rfl rfl (four_row _ _ _ _ _ _) (by intro u hu; simp at hu; rcases hu with rfl | rfl | rfl | rfl <;> rfl) (by unfold maxLen; omega) (by omega) (by have := HA.out.below.size; simp; omega) ?_)
         intro vm wm hown hgrow _
         have hown : wm.ownsRow u4.heap.size 26 4 vm ((os ++ [r1]).length + 1) (vL (os ++ [r1]) ++ cellsR x) := by rw [List.length_append]; exact hown
         have HA := Kp.mk (HA.out.add (r := x) ((Below.refl wn.heap.size wn).alloc (Nat.le_refl _) (.cells #[.int .i8 x.f, .int .i64 x.d, .int .i8 x.g, .int .i64 x.e] 26)) hown hgrow)
         clear hown hgrow
         clear k0 k1 k2 k3
         go_wp2_with fail
         go_roundw
         case rel => exact ⟨q + 1, os ++ [r1] ++ [x], true, _, by omega, by go_num, rfl, rfl, by simp; omega, by rw [hins]; simp, HA⟩
         case measure => simp [intOf]; omega
        ·rw [if_neg h2] at hins
         have t2 : decide (c < 0) = false := decide_eq_false h2
         have b4 : 0 ≤ c := by omega
         clear h2
         go_upto_region 21 with fail
         have hbl := (Below.refl wr.heap.size wr).drew
         have HAz := Kp.mk (HA.out.step hbl)
         obtain ⟨k0z, k1z, k2z, k3z⟩ := (HL.out.step HAz.out.below).lr.cells hx
         obtain ⟨k4z, k5z, k6z, k7z⟩ := (HR.out.step HAz.out.below).four
         clear hbl
         refine wp_region_held_drew (S := fun w' => w'.cell? ⟨g, s + q * 4, none⟩ = some (.int .i8 x.f) ∧ w'.cell? ⟨g, s + q * 4 + 1, none⟩ = some (.int .i64 x.d) ∧ w'.cell? ⟨g, s + q * 4 + 2, none⟩ = some (.int .i8 x.g) ∧ w'.cell? ⟨g, s + q * 4 + 3, none⟩ = some (.int .i64 x.e) ∧ w'.cell? ⟨w.heap.size, 0, none⟩ = some (.int .i8 r1.f) ∧ w'.cell? ⟨w.heap.size, 1, none⟩ = some (.int .i64 r1.d) ∧ w'.cell? ⟨w.heap.size, 2, none⟩ = some (.int .i8 r1.g) ∧ w'.cell? ⟨w.heap.size, 3, none⟩ = some (.int .i64 r1.e)) (by kernel_rfl) ?_ (fun hHeld => ?_)
         ·with_reducible exact ⟨k0z, k1z, k2z, k3z, k4z, k5z, k6z, k7z⟩
         refine tk 0 ?_ rfl hHeld ?_ ?_
         rotate_left
         ·(intro w hSw; (try dsimp only at hSw); go_simp; try with_reducible rfl)
         try simp only [pt]
         refine tk 1 ?_ rfl hHeld ?_ ?_
         rotate_left
         ·(intro w hSw; (try dsimp only at hSw); go_simp; try with_reducible rfl)
         try simp only [pt]
         refine tk 2 ?_ rfl hHeld ?_ ?_
         rotate_left
         ·(intro w hSw; (try dsimp only at hSw); go_simp; try with_reducible rfl)
         try simp only [pt]
         refine tk 3 ?_ rfl hHeld ?_ ?_
         rotate_left
         ·(intro w hSw; (try dsimp only at hSw); go_simp; try with_reducible rfl)
         try simp only [pt]
         refine tk 4 ?_ rfl hHeld ?_ ?_
         rotate_left
         ·(intro w hSw; (try dsimp only at hSw); go_simp; try with_reducible rfl)
         try simp only [pt]
         refine tk 5 ?_ rfl hHeld ?_ ?_
         rotate_left
         ·(intro w hSw; (try dsimp only at hSw); go_simp; try with_reducible rfl)
         try simp only [pt]
         refine tk 6 ?_ rfl hHeld ?_ ?_
         rotate_left
         ·(intro w hSw; (try dsimp only at hSw); go_simp; try with_reducible rfl)
         try simp only [pt]
         refine tk 7 ?_ rfl hHeld ?_ ?_
         rotate_left
         ·(intro w hSw; (try dsimp only at hSw); go_simp; try with_reducible rfl)
         try simp only [pt]
         refine rd [8] ?_
         refine AllReadyH.cons (dropAt rfl) (fun K hK => ?_) AllReadyH.nil
         go_simp
         go_at_call 17
         with_reducible refine (rm.out _).mono ?_
         rintro e y1 ⟨rfl, hb⟩
         have HA_y1 := Kp.mk (HAz.out.step hb)
         obtain ⟨k0_y1, k1_y1, k2_y1, k3_y1⟩ := (HL.out.step HA_y1.out.below).lr.cells hx
         obtain ⟨k4_y1, k5_y1, k6_y1, k7_y1⟩ := (HR.out.step HA_y1.out.below).four
         clear hHeld k0z k1z k2z k3z k4z k5z k6z k7z HAz hb
         go_wp2_with fail
         refine hK.out _ _ ?_ (fun hHeld => ?_)
         ·with_reducible exact ⟨k0_y1, k1_y1, k2_y1, k3_y1, k4_y1, k5_y1, k6_y1, k7_y1⟩
         clear hK K
         try simp only [pt]
         refine tk 9 ?_ rfl hHeld ?_ ?_
         rotate_left
         ·(intro w hSw; (try dsimp only at hSw); go_simp; try with_reducible rfl)
         try simp only [pt]
         refine tk 10 ?_ rfl hHeld ?_ ?_
         rotate_left
         ·(intro w hSw; (try dsimp only at hSw); go_simp; try with_reducible rfl)
         try simp only [pt]
         refine wpAnyH_done (by kernel_rfl) ?_ _
         clear hHeld
         have HA := HA_y1
         clear k0_y1 k1_y1 k2_y1 k3_y1 k4_y1 k5_y1 k6_y1 k7_y1
         generalize y1 = wt at *
         obtain ⟨k0, k1, k2, k3⟩ := (HL.out.step HA.out.below).lr.cells hx
         go_wp2_with (at_builtin; refine wpList_append_own _ rfl (.tmp 71) (.tmp 76) 60 rfl u4.heap.size 26 i0 (.agg #[.int .i8 0, .int .i64 0, .int .i8 0, .int .i64 0]) 4 32 Tryz.underlying60 hi0 hz0 hz1 hz2 rfl (by decide) v os.length (vL os) rfl (HA.out.own.alloc _) ⟨wt.heap.size, 0, none⟩ 1 1 [.int .i8 x.f, .int .i64 x.d, .int .i8 x.g, .int .i64 x.e] rfl rfl (four_row _ _ _ _ _ _) (by intro u hu; simp at hu; rcases hu with rfl | rfl | rfl | rfl <;> rfl) (by unfold maxLen; omega) (by omega) (by have := HA.out.below.size; simp; omega) ?_)
         intro vn wn hown hgrow _
         have HA := Kp.mk (HA.out.add (r := x) ((Below.refl wt.heap.size wt).alloc (Nat.le_refl _) (.cells #[.int .i8 x.f, .int .i64 x.d, .int .i8 x.g, .int .i64 x.e] 26)) hown hgrow)
         clear hown hgrow
         clear k0 k1 k2 k3
         go_wp2_with fail
         go_roundw
         case rel => exact ⟨q + 1, os ++ [x], false, _, by omega, by go_num, rfl, rfl, by simp; omega, by rw [hins]; simp, HA⟩
         case measure => simp [intOf]; omega
      ·obtain rfl : q = p := by omega
       rw [List.drop_of_length_le (by omega)] at hins
       cases b with
       | true =>
        rw [if_pos rfl, List.append_nil] at hins
        obtain ⟨a2, c2, rfl, hr1, hr2⟩ := HA.out.row HL.out.lr.below
        go_wp2_with fail
        go_ret
        exact ⟨⟨_, a2, c2, rfl, (by rw [← hins]; exact hfin), (by rw [← hins, ins_len]; omega), hr1⟩, hr1.below⟩
       | false =>
        rw [if_neg (by decide)] at hins
        have hins : insR r1 l1 = os ++ [r1] := hins
        have hlen : os.length ≤ q := hlen
        obtain ⟨k0, k1, k2, k3⟩ := (HR.out.step HA.out.below).four
        go_wp2_with (at_builtin; refine wpList_append_own _ rfl (.tmp 80) (.tmp 82) 60 rfl u4.heap.size 26 i0 (.agg #[.int .i8 0, .int .i64 0, .int .i8 0, .int .i64 0]) 4 32 Tryz.underlying60 hi0 hz0 hz1 hz2 rfl (by decide) v os.length (vL os) rfl (HA.out.own.alloc _) ⟨wr.heap.size, 0, none⟩ 1 1 [.int .i8 r1.f, .int .i64 r1.d, .int .i8 r1.g, .int .i64 r1.e] rfl rfl (four_row _ _ _ _ _ _) (by intro u hu; simp at hu; rcases hu with rfl | rfl | rfl | rfl <;> rfl) (by unfold maxLen; omega) (by omega) (by have := HA.out.below.size; simp; omega) ?_)
        intro vn wn hown hgrow _
        have HA := Kp.mk (HA.out.add (r := r1) ((Below.refl wr.heap.size wr).alloc (Nat.le_refl _) (.cells #[.int .i8 r1.f, .int .i64 r1.d, .int .i8 r1.g, .int .i64 r1.e] 26)) hown hgrow)
        clear hown hgrow
        clear k0 k1 k2 k3
        obtain ⟨a2, c2, rfl, hr1, hr2⟩ := HA.out.row HL.out.lr.below
        go_wp2_with fail
        go_ret
        exact ⟨⟨_, a2, c2, rfl, (by rw [← hins]; exact hfin), (by rw [← hins, ins_len]; omega), hr1⟩, hr1.below⟩
    ·have b1 : ¬ ((k : Int) < 0) := by omega
     obtain ⟨g, s, rfl⟩ := HL.out.lr.place hy
     have b2 : (k : Int) < (p : Int) := by omega
     obtain ⟨jn, hj⟩ : ∃ jn, joinN y r1 = jn := ⟨_, rfl⟩
     have rj := Kp.mk (fun w => refJoin_is hj w)
     have HS2 : Kp (Pt l (l1.eraseIdx k) r jn) := by
      obtain ⟨e1, e2, e3⟩ := erase_can HS.out.can HS.out.ok hy hty
      rw [hj] at e2 e3
      exact Kp.mk ⟨e1, e2, fun x => (e3 x).trans (HS.out.mem x)⟩
     clear hj hty HS
     go_upto_region 8 with fail
     have hbl := (Below.refl wr.heap.size wr).drew
     have HLz := Kp.mk (HL.out.step hbl)
     have HRz := Kp.mk (HR.out.step hbl)
     obtain ⟨k0z, k1z, k2z, k3z⟩ := HLz.out.lr.cells hy
     clear hbl
     refine wp_region_held_drew (S := fun w' => w'.cell? ⟨g, s + k * 4, none⟩ = some (.int .i8 y.f) ∧ w'.cell? ⟨g, s + k * 4 + 1, none⟩ = some (.int .i64 y.d) ∧ w'.cell? ⟨g, s + k * 4 + 2, none⟩ = some (.int .i8 y.g) ∧ w'.cell? ⟨g, s + k * 4 + 3, none⟩ = some (.int .i64 y.e)) (by kernel_rfl) ?_ (fun hHeld => ?_)
     ·with_reducible exact ⟨k0z, k1z, k2z, k3z⟩
     refine tk 0 ?_ rfl hHeld ?_ ?_
     rotate_left
     ·(intro w hSw; (try dsimp only at hSw); go_simp; try with_reducible rfl)
     try simp only [pt]
     refine tk 1 ?_ rfl hHeld ?_ ?_
     rotate_left
     ·(intro w hSw; (try dsimp only at hSw); go_simp; try with_reducible rfl)
     try simp only [pt]
     refine tk 2 ?_ rfl hHeld ?_ ?_
     rotate_left
     ·(intro w hSw; (try dsimp only at hSw); go_simp; try with_reducible rfl)
     try simp only [pt]
     refine tk 3 ?_ rfl hHeld ?_ ?_
     rotate_left
     ·(intro w hSw; (try dsimp only at hSw); go_simp; try with_reducible rfl)
     try simp only [pt]
     refine rd [4] ?_
     refine AllReadyH.cons (dropAt rfl) (fun K hK => ?_) AllReadyH.nil
     obtain ⟨q0, q1, q2, q3⟩ := HRz.out.four
     go_simp
     refine hK.out _ _ ?_ (fun hHeld => ?_)
     ·with_reducible exact ⟨k0z, k1z, k2z, k3z⟩
     clear hK K
     try simp only [pt]
     refine rd [5] ?_
     refine AllReadyH.cons (dropAt rfl) (fun K hK => ?_) AllReadyH.nil
     go_simp
     go_at_call 24
     with_reducible refine (rj.out _).mono ?_
     rintro e y1 ⟨rfl, hb⟩
     have HL_y1 := Kp.mk (HLz.out.step hb)
     have HR_y1 := Kp.mk (HRz.out.step hb)
     obtain ⟨k0_y1, k1_y1, k2_y1, k3_y1⟩ := HL_y1.out.lr.cells hy
     clear hHeld k0z k1z k2z k3z HLz HRz hb
     go_wp2_with fail
     refine hK.out _ _ ?_ (fun hHeld => ?_)
     ·with_reducible exact ⟨k0_y1, k1_y1, k2_y1, k3_y1⟩
     clear hK K
     try simp only [pt]
     refine rd [6] ?_
     refine AllReadyH.cons (dropAt rfl) (fun K hK => ?_) AllReadyH.nil
     obtain ⟨q0, q1, q2, q3⟩ := HR_y1.out.four
     have f0 := HR_y1.out.frozen 0
     have f1 := HR_y1.out.frozen 1
     have f2 := HR_y1.out.frozen 2
     have f3 := HR_y1.out.frozen 3
     clear hHeld k0_y1 k1_y1 k2_y1 k3_y1
     go_simp
     have HL := HL_y1
     have HR := HR_y1
     clear q0 q1 q2 q3 f0 f1 f2 f3
     have HL : Kp (Lq w w.heap.size (some ⟨g, s, none⟩) l1 ((((y1.setCell ⟨w.heap.size, 0, none⟩ (.int .i8 jn.f)).setCell ⟨w.heap.size, 1, none⟩ (.int .i64 jn.d)).setCell ⟨w.heap.size, 2, none⟩ (.int .i8 jn.g)).setCell ⟨w.heap.size, 3, none⟩ (.int .i64 jn.e))) := Kp.mk (HL.out.setR (Nat.le_refl _) jn)
     have HR : Kp (Ro w w.heap.size jn ((((y1.setCell ⟨w.heap.size, 0, none⟩ (.int .i8 jn.f)).setCell ⟨w.heap.size, 1, none⟩ (.int .i64 jn.d)).setCell ⟨w.heap.size, 2, none⟩ (.int .i8 jn.g)).setCell ⟨w.heap.size, 3, none⟩ (.int .i64 jn.e))) := Kp.mk (HR.out.fill jn)
     generalize ((((y1.setCell ⟨w.heap.size, 0, none⟩ (.int .i8 jn.f)).setCell ⟨w.heap.size, 1, none⟩ (.int .i64 jn.d)).setCell ⟨w.heap.size, 2, none⟩ (.int .i8 jn.g)).setCell ⟨w.heap.size, 3, none⟩ (.int .i64 jn.e)) = y2 at *
     obtain ⟨k0_y2, k1_y2, k2_y2, k3_y2⟩ := HL.out.lr.cells hy
     refine hK.out _ _ ?_ (fun hHeld => ?_)
     ·with_reducible exact ⟨k0_y2, k1_y2, k2_y2, k3_y2⟩
     clear hK K
     try simp only [pt]
     refine wpAnyH_done (by kernel_rfl) ?_ _
     clear hHeld
     have HL := HL
     have HR := HR
     clear k0_y2 k1_y2 k2_y2 k3_y2
     go_wp2_with fail
     have HA := Kp.mk (ag_new y2)
     go_loopw [7, 8] (fun v i wr => ∃ (q : Nat) (rs : List Rn) (v' : Value), q ≤ p ∧ i = .int .i64 (q : Int) ∧ v' = v ∧ rs.length ≤ q ∧ Kp (rs = (l1.take q).eraseIdx k) ∧ Kp (Ag y2 rs v' wr)) (fun _ i _ => p - (intOf i).toNat)
     case atStart => exact ⟨0, [], _, by omega, rfl, rfl, by simp, ⟨by simp⟩, HA⟩
     case round =>
      obtain ⟨q, rs, v, hq, rfl, rfl, hlen, hrs, HA⟩ := hrel
      by_cases h1 : q < p
      ·have t1 : decide ((q : Int) < (p : Int)) = true := decide_eq_true (by omega)
       have b3 : (q : Int) < (p : Int) := by omega
       have wq1 : IntKind.i64.wrap ((q : Int) + 1) = (q : Int) + 1 := IntWalk.i64_in _ (by omega)
       obtain ⟨x, hx⟩ : ∃ x, l1[q]? = some x := ⟨l1[q]'(by omega), List.getElem?_eq_getElem (by omega)⟩
       by_cases h2 : q = k
       ·subst h2
        have hrs : Kp (rs = (l1.take (q + 1)).eraseIdx q) := Kp.mk (by rw [er_skip hx]; exact hrs.out)
        go_wp2_with fail
        go_roundw
        case rel => exact ⟨q + 1, rs, v, by omega, by go_num, rfl, by omega, hrs, HA⟩
        case measure => simp [intOf]; omega
       ·have n1 : ¬ (q : Int) = (k : Int) := by omega
        have t2 : ((q : Int) != (k : Int)) = true := by rw [bne_iff_ne]; exact n1
        obtain ⟨k0, k1, k2, k3⟩ := (HL.out.step HA.out.below).lr.cells hx
        go_wp2_with (at_builtin; refine wpList_append_own _ rfl (.tmp 42) (.tmp 47) 60 rfl y2.heap.size 26 i0 (.agg #[.int .i8 0, .int .i64 0, .int .i8 0, .int .i64 0]) 4 32 Tryz.underlying60 hi0 hz0 hz1 hz2 rfl (by decide) v rs.length (vL rs) rfl (HA.out.own.alloc _) ⟨wr.heap.size, 0, none⟩ 1 1 [.int .i8 x.f, .int .i64 x.d, .int .i8 x.g, .int .i64 x.e] rfl rfl (four_row _ _ _ _ _ _) (by intro u hu; simp at hu; rcases hu with rfl | rfl | rfl | rfl <;> rfl) (by unfold maxLen; omega) (by omega) (by have := HA.out.below.size; simp; omega) ?_)
        intro vn wn hown hgrow _
        have HA := Kp.mk (HA.out.add (r := x) ((Below.refl wr.heap.size wr).alloc (Nat.le_refl _) (.cells #[.int .i8 x.f, .int .i64 x.d, .int .i8 x.g, .int .i64 x.e] 26)) hown hgrow)
        clear hown hgrow
        clear k0 k1 k2 k3
        go_wp2_with fail
        go_roundw
        case rel => exact ⟨q + 1, rs ++ [x], _, by omega, by go_num, rfl, by rw [List.length_append]; show rs.length + 1 ≤ q + 1; omega, ⟨by rw [er_step hx h2, hrs.out]⟩, HA⟩
        case measure => simp [intOf]; omega
      ·obtain rfl : q = p := by omega
       have hrs : rs = l1.eraseIdx k := by have := hrs.out; rw [List.take_of_length_le (by omega)] at this; exact this
       obtain ⟨a2, c2, rfl, hr1, hr2⟩ := HA.out.row HL.out.lr.below
       have HL : Kp (Lq w w.heap.size a2 rs wr) := Kp.mk ⟨hr1, fun h ad e => by have := hr2 h ad e; have := HR.out.lt; omega⟩
       have HR := Kp.mk (HR.out.step HA.out.below)
       have hl2 : rs.length + 1 = q := by rw [hrs, List.length_eraseIdx_of_lt hk]; omega
       rw [← hrs] at HS2
       clear hrs hr1 hr2 HA
       go_wp2_with fail
       go_roundw
       case rel => exact ⟨rs, jn, a2, c2, rfl, by omega, HS2, HL, HR⟩
       case measure => simp [lenOf]; omega
end Go.Proofs.YtndjcmclmhoigaaGreatDoor
