/-
 DERIVED. Lists of runs in memory; CONTRACT of the reference of layer 10 (runsets): Check. Written by mkrsref.py.
-/
import Derived.Test.YtndjcmclmhoigaaGreatDoorPA3
namespace Go.Proofs.YtndjcmclmhoigaaGreatDoor
open Go.RowKit
set_option maxRecDepth 100000

/-- the four cells of a run, from a place of a block on -/
structure At4 (W : World) (g o : Nat) (r : Rn) : Prop where
 c0 : W.cell? ⟨g, o, none⟩ = some (.int .i8 r.f)
 c1 : W.cell? ⟨g, o + 1, none⟩ = some (.int .i64 r.d)
 c2 : W.cell? ⟨g, o + 2, none⟩ = some (.int .i8 r.g)
 c3 : W.cell? ⟨g, o + 3, none⟩ = some (.int .i64 r.e)
/-- a list of runs at an address (if it is not empty), as every world of a walk has it -/
structure Lr (w : World) (a : Option Addr) (l : List Rn) (W : World) : Prop where
 below : Below w.heap.size w W
 at4 : ∀ p r, l[p]? = some r → ∃ g o, a = some ⟨g, o, none⟩ ∧ g < W.heap.size ∧ At4 W g (o + p * 4) r
variable {w W W' : World} {a : Option Addr} {l : List Rn}
theorem At4.step {g o : Nat} {r : Rn} (h : At4 W g o r) (hg : g < W.heap.size) (hb : Below W.heap.size W W') : At4 W' g o r :=
 ⟨by rw [hb.cell (p := ⟨g, o, none⟩) hg]; exact h.c0, by rw [hb.cell (p := ⟨g, o + 1, none⟩) hg]; exact h.c1, by rw [hb.cell (p := ⟨g, o + 2, none⟩) hg]; exact h.c2, by rw [hb.cell (p := ⟨g, o + 3, none⟩) hg]; exact h.c3⟩
theorem Lr.step (h : Lr w a l W) (hb : Below W.heap.size W W') : Lr w a l W' :=
 ⟨h.below.trans (hb.mono h.below.size), fun p r hp => by
  obtain ⟨g, o, e, hg, hc⟩ := h.at4 p r hp
  exact ⟨g, o, e, Nat.lt_of_lt_of_le hg hb.size, hc.step hg hb⟩⟩
theorem Lr.place (h : Lr w a l W) {p : Nat} {r : Rn} (hp : l[p]? = some r) : ∃ g o, a = some ⟨g, o, none⟩ := by
 obtain ⟨g, o, e, _⟩ := h.at4 p r hp
 exact ⟨g, o, e⟩
theorem Lr.cells {g o : Nat} (h : Lr w (some ⟨g, o, none⟩) l W) {p : Nat} {r : Rn} (hp : l[p]? = some r) : At4 W g (o + p * 4) r := by
 obtain ⟨g', o', e, _, hc⟩ := h.at4 p r hp
 injection e with e
 injection e with e1 e2
 subst e1 e2
 exact hc
/-- the first error of runs behind another one -/
def chkFrom : Option Rn → List Rn → Int
 | _, [] => 0
 | p, r :: t => if chkR r = 0 then (match p with
  | none => chkFrom (some r) t
  | some q => if 0 ≤ cmpE q.g q.e r.f r.d ∨ touchN q r = true then 12 else chkFrom (some r) t) else chkR r
def chkRs (l : List Rn) : Int := if 4096 < l.length then 3 else chkFrom none l
/-- the one ahead of a place -/
def prvR (l : List Rn) : Nat → Option Rn
 | 0 => none
 | n + 1 => l[n]?
theorem drop_at {p : Nat} {r : Rn} (h : l[p]? = some r) : l.drop p = r :: l.drop (p + 1) := by
 obtain ⟨hp, e⟩ := List.getElem?_eq_some_iff.1 h
 rw [List.drop_eq_getElem_cons hp, e]
/-- those ahead of a place are right -/
def OkTo (l : List Rn) (p : Nat) : Prop := ∀ q j, j < p → l[j]? = some q → q.Ok
theorem OkTo.more {p : Nat} {r : Rn} (h : OkTo l p) (hok : r.Ok) (hr : l[p]? = some r) : OkTo l (p + 1) := by
 intro q j hj hq
 by_cases e : j < p
 ·exact h q j e hq
 ·obtain rfl : j = p := by omega
  rw [hr] at hq
  injection hq with hq
  exact hq ▸ hok
set_option maxHeartbeats 4000000 in
theorem refSChk_is {c : Int} {cap : Nat} (hin : ∀ r, r ∈ l → r.In) (hc : chkRs l = c) (hn : l.length ≤ maxLen) (hl : Lr w a l w) :
 Calls Tryz.prog 48 #[.slice a l.length cap] w fun x w' => x = .returned (.int .i64 c) ∧ Below w.heap.size w w' := by
 have HL := Kp.mk hl
 have HI := Kp.mk hin
 have hn2 : l.length ≤ 9223372036854775807 := by unfold maxLen at hn; omega
 clear hl hin hn
 unfold chkRs at hc
 by_cases h0 : 4096 < l.length
 ·rw [if_pos h0] at hc
  subst hc
  have t0 : decide ((4096 : Int) < (l.length : Int)) = true := decide_eq_true (by omega)
  go_enter Tryz.func48, Tryz.ntmps48
  go_wp2_with fail
  go_ret
  exact ⟨rfl, HL.out.below⟩
 ·rw [if_neg h0] at hc
  obtain ⟨n, hnn⟩ : ∃ n, l.length = n := ⟨_, rfl⟩
  rw [hnn] at h0 hn2 ⊢
  have t0 : decide ((4096 : Int) < (n : Int)) = false := decide_eq_false (by omega)
  go_enter Tryz.func48, Tryz.ntmps48
  go_wp2_with fail
  go_loopw [3, 4] (fun i _ wr => ∃ p : Nat, p ≤ n ∧ i = .int .i64 (p : Int) ∧ chkFrom (prvR l p) (l.drop p) = c ∧ Kp (OkTo l p) ∧ Kp (Lr w a l wr)) (fun i _ _ => n - (intOf i).toNat)
  case atStart => exact ⟨0, by omega, rfl, hc, ⟨fun _ _ h => by omega⟩, HL⟩
  case round =>
   obtain ⟨p, hp, rfl, hq, HO, HL⟩ := hrel
   by_cases h1 : p < n
   ·have t1 : decide ((p : Int) < (n : Int)) = true := decide_eq_true (by omega)
    have b1 : (p : Int) < (n : Int) := by omega
    obtain ⟨r, hr⟩ : ∃ r, l[p]? = some r := ⟨l[p]'(by omega), List.getElem?_eq_getElem (by omega)⟩
    obtain ⟨g, s, rfl⟩ := HL.out.place hr
    rw [drop_at hr] at hq
    have hri := HI.out r (List.mem_of_getElem? hr)
    obtain ⟨v, hv⟩ : ∃ v, chkR r = v := ⟨_, rfl⟩
    have rc := Kp.mk (fun w => refRChk_is hv w)
    have wp1 : IntKind.i64.wrap ((p : Int) + 1) = (p : Int) + 1 := IntWalk.i64_in _ (by omega)
    obtain ⟨k0, k1, k2, k3⟩ := HL.out.cells hr
    by_cases h2 : v = 0
    ·subst h2
     have hok := (chkR_zero hri).1 hv
     unfold chkFrom at hq
     rw [if_pos hv] at hq
     by_cases h3 : p = 0
     ·have hq : chkFrom (some r) (l.drop (p + 1)) = c := by rw [h3] at hq ⊢; exact hq
      have t3n : decide (0 < p) = false := decide_eq_false (by omega)
      have HO := Kp.mk (HO.out.more hok hr)
      clear hv hok hri h3
      go_wp2_with fail
      refine (rc.out _).mono ?_
      rintro e y1 ⟨rfl, hbl⟩
      have HL := Kp.mk (HL.out.step hbl)
      clear hbl
      clear k0 k1 k2 k3
      go_upto_region 9 with fail
      have hbl := (Below.refl y1.heap.size y1).drew
      have HLz := Kp.mk (HL.out.step hbl)
      obtain ⟨k0z, k1z, k2z, k3z⟩ := HLz.out.cells hr
      clear hbl
      refine wp_region_held_drew (S := fun w' => w'.cell? ⟨g, s + p * 4, none⟩ = some (.int .i8 r.f) ∧ w'.cell? ⟨g, s + p * 4 + 1, none⟩ = some (.int .i64 r.d) ∧ w'.cell? ⟨g, s + p * 4 + 2, none⟩ = some (.int .i8 r.g) ∧ w'.cell? ⟨g, s + p * 4 + 3, none⟩ = some (.int .i64 r.e)) (by kernel_rfl) ?_ (fun hHeld => ?_)
      ·with_reducible exact ⟨k0z, k1z, k2z, k3z⟩
      refine tk 0 ?_ rfl hHeld ?_ ?_
      rotate_left
      ·(intro w hSw; (try dsimp only at hSw); go_simp; try with_reducible rfl)
      try simp only [pt]
      refine tk 1 ?_ rfl hHeld ?_ ?_
      rotate_left
      ·(intro w hSw; (try dsimp only at hSw); go_simp; try with_reducible rfl)
      try simp only [pt]
      refine tk 2 ?_ rfl hHeld ?_ ?_
      rotate_left
      ·(intro w hSw; (try dsimp only at hSw); go_simp; try with_reducible rfl)
      try simp only [pt]
      refine takeOut (i := 3) rfl (by kernel_rfl) (by kernel_rfl) (by kernel_rfl) (fun _ _ _ h => h) (by rfl) hHeld ?_
      try simp only [pt]
      refine takeOut (i := 4) rfl (by kernel_rfl) (by kernel_rfl) (by kernel_rfl) (fun _ _ _ h => h) (by rfl) hHeld ?_
      try simp only [pt]
      refine takeOut (i := 5) rfl (by kernel_rfl) (by kernel_rfl) (by kernel_rfl) (fun _ _ _ h => h) (by rfl) hHeld ?_
      try simp only [pt]
      refine takeOut (i := 6) rfl (by kernel_rfl) (by kernel_rfl) (by kernel_rfl) (fun _ _ _ h => h) (by rfl) hHeld ?_
      try simp only [pt]
      refine takeOut (i := 7) rfl (by kernel_rfl) (by kernel_rfl) (by kernel_rfl) (fun _ _ _ h => h) (by rfl) hHeld ?_
      try simp only [pt]
      refine takeOut (i := 8) rfl (by kernel_rfl) (by kernel_rfl) (by kernel_rfl) (fun _ _ _ h => h) (by rfl) hHeld ?_
      try simp only [pt]
      refine takeOut (i := 9) rfl (by kernel_rfl) (by kernel_rfl) (by kernel_rfl) (fun _ _ _ h => h) (by rfl) hHeld ?_
      try simp only [pt]
      refine takeOut (i := 10) rfl (by kernel_rfl) (by kernel_rfl) (by kernel_rfl) (fun _ _ _ h => h) (by rfl) hHeld ?_
      try simp only [pt]
      refine takeOut (i := 11) rfl (by kernel_rfl) (by kernel_rfl) (by kernel_rfl) (fun _ _ _ h => h) (by rfl) hHeld ?_
      try simp only [pt]
      refine takeOut (i := 12) rfl (by kernel_rfl) (by kernel_rfl) (by kernel_rfl) (fun _ _ _ h => h) (by rfl) hHeld ?_
      try simp only [pt]
      refine takeOut (i := 13) rfl (by kernel_rfl) (by kernel_rfl) (by kernel_rfl) (fun _ _ _ h => h) (by rfl) hHeld ?_
      try simp only [pt]
      refine takeOut (i := 14) rfl (by kernel_rfl) (by kernel_rfl) (by kernel_rfl) (fun _ _ _ h => h) (by rfl) hHeld ?_
      try simp only [pt]
      refine takeOut (i := 15) rfl (by kernel_rfl) (by kernel_rfl) (by kernel_rfl) (fun _ _ _ h => h) (by rfl) hHeld ?_
      try simp only [pt]
      refine takeOut (i := 16) rfl (by kernel_rfl) (by kernel_rfl) (by kernel_rfl) (fun _ _ _ h => h) (by rfl) hHeld ?_
      try simp only [pt]
      refine takeOut (i := 17) rfl (by kernel_rfl) (by kernel_rfl) (by kernel_rfl) (fun _ _ _ h => h) (by rfl) hHeld ?_
      try simp only [pt]
      refine takeOut (i := 18) rfl (by kernel_rfl) (by kernel_rfl) (by kernel_rfl) (fun _ _ _ h => h) (by rfl) hHeld ?_
      try simp only [pt]
      refine takeOut (i := 19) rfl (by kernel_rfl) (by kernel_rfl) (by kernel_rfl) (fun _ _ _ h => h) (by rfl) hHeld ?_
      try simp only [pt]
      refine takeOut (i := 20) rfl (by kernel_rfl) (by kernel_rfl) (by kernel_rfl) (fun _ _ _ h => h) (by rfl) hHeld ?_
      try simp only [pt]
      refine takeOut (i := 21) rfl (by kernel_rfl) (by kernel_rfl) (by kernel_rfl) (fun _ _ _ h => h) (by rfl) hHeld ?_
      try simp only [pt]
      refine takeOut (i := 22) rfl (by kernel_rfl) (by kernel_rfl) (by kernel_rfl) (fun _ _ _ h => h) (by rfl) hHeld ?_
      try simp only [pt]
      refine takeOut (i := 23) rfl (by kernel_rfl) (by kernel_rfl) (by kernel_rfl) (fun _ _ _ h => h) (by rfl) hHeld ?_
      try simp only [pt]
      refine takeOut (i := 24) rfl (by kernel_rfl) (by kernel_rfl) (by kernel_rfl) (fun _ _ _ h => h) (by rfl) hHeld ?_
      try simp only [pt]
      refine takeOut (i := 25) rfl (by kernel_rfl) (by kernel_rfl) (by kernel_rfl) (fun _ _ _ h => h) (by rfl) hHeld ?_
      try simp only [pt]
      refine takeOut (i := 26) rfl (by kernel_rfl) (by kernel_rfl) (by kernel_rfl) (fun _ _ _ h => h) (by rfl) hHeld ?_
      try simp only [pt]
      refine takeOut (i := 27) rfl (by kernel_rfl) (by kernel_rfl) (by kernel_rfl) (fun _ _ _ h => h) (by rfl) hHeld ?_
      try simp only [pt]
      refine tk 28 ?_ rfl hHeld ?_ ?_
      rotate_left
      ·(intro w hSw; (try dsimp only at hSw); go_simp; try with_reducible rfl)
      try simp only [pt]
      refine wpAnyH_done (by kernel_rfl) ?_ _
      clear hHeld
      have HL := HLz
      clear k0z k1z k2z k3z
      go_wp2_with fail
      go_roundw
      case rel => exact ⟨p + 1, by omega, by go_num, by show chkFrom (l[p]?) _ = _; rw [hr]; exact hq, HO, HL⟩
      case measure => simp [intOf]; omega
     ·obtain ⟨q, hqs⟩ : ∃ q, l[p - 1]? = some q := ⟨l[p - 1]'(by omega), List.getElem?_eq_getElem (by omega)⟩
      have t3 : decide ((0 : Int) < (p : Int)) = true := decide_eq_true (by omega)
      have t3n : decide (0 < p) = true := decide_eq_true (by omega)
      have b4 : 0 < p := by omega
      have b5 : (0 : Int) < (p : Int) := by omega
      have wp2 : IntKind.i64.wrap ((p : Int) - 1) = ((p - 1 : Nat) : Int) := by rw [IntWalk.i64_in _ (by omega)]; omega
      have b3 : ((p - 1 : Nat) : Int) < (n : Int) := by omega
      have hqo : q.Ok := HO.out q (p - 1) (by omega) hqs
      have hq : (if 0 ≤ cmpE q.g q.e r.f r.d ∨ touchN q r = true then 12 else chkFrom (some r) (l.drop (p + 1))) = c := by
       have e : prvR l p = some q := by
        obtain ⟨m, rfl⟩ : ∃ m, p = m + 1 := ⟨p - 1, by omega⟩
        exact hqs
       rw [e] at hq
       exact hq
      obtain ⟨x, hx⟩ : ∃ x, cmpE q.g q.e r.f r.d = x := ⟨_, rfl⟩
      rw [hx] at hq
      have rcm := Kp.mk (fun w => refECmp_is hx w)
      clear hx
      by_cases h4 : 0 ≤ x
      ·rw [if_pos (.inl h4)] at hq
       subst hq
       have t4 : decide (0 ≤ x) = true := decide_eq_true h4
       have b6 : 0 ≤ x := h4
       clear hv hok hri h3 hqo h4
       go_wp2_with fail
       refine (rc.out _).mono ?_
       rintro e y1 ⟨rfl, hbl⟩
       have HL := Kp.mk (HL.out.step hbl)
       clear hbl
       clear k0 k1 k2 k3
       go_upto_region 9 with fail
       have hbl := (Below.refl y1.heap.size y1).drew
       have HLz := Kp.mk (HL.out.step hbl)
       obtain ⟨k0z, k1z, k2z, k3z⟩ := HLz.out.cells hr
       obtain ⟨k4z, k5z, k6z, k7z⟩ := HLz.out.cells hqs
       clear hbl
       refine wp_region_held_drew (S := fun w' => w'.cell? ⟨g, s + p * 4, none⟩ = some (.int .i8 r.f) ∧ w'.cell? ⟨g, s + p * 4 + 1, none⟩ = some (.int .i64 r.d) ∧ w'.cell? ⟨g, s + p * 4 + 2, none⟩ = some (.int .i8 r.g) ∧ w'.cell? ⟨g, s + p * 4 + 3, none⟩ = some (.int .i64 r.e) ∧ w'.cell? ⟨g, s + (p - 1) * 4, none⟩ = some (.int .i8 q.f) ∧ w'.cell? ⟨g, s + (p - 1) * 4 + 1, none⟩ = some (.int .i64 q.d) ∧ w'.cell? ⟨g, s + (p - 1) * 4 + 2, none⟩ = some (.int .i8 q.g) ∧ w'.cell? ⟨g, s + (p - 1) * 4 + 3, none⟩ = some (.int .i64 q.e)) (by kernel_rfl) ?_ (fun hHeld => ?_)
       ·with_reducible exact ⟨k0z, k1z, k2z, k3z, k4z, k5z, k6z, k7z⟩
       refine tk 0 ?_ rfl hHeld ?_ ?_
       rotate_left
       ·(intro w hSw; (try dsimp only at hSw); go_simp; try with_reducible rfl)
       try simp only [pt]
       refine tk 1 ?_ rfl hHeld ?_ ?_
       rotate_left
       ·(intro w hSw; (try dsimp only at hSw); go_simp; try with_reducible rfl)
       try simp only [pt]
       refine tk 2 ?_ rfl hHeld ?_ ?_
       rotate_left
       ·(intro w hSw; (try dsimp only at hSw); go_simp; try with_reducible rfl)
       try simp only [pt]
       refine tk 3 ?_ rfl hHeld ?_ ?_
       rotate_left
       ·(intro w hSw; (try dsimp only at hSw); go_simp; try with_reducible rfl)
       try simp only [pt]
       refine tk 4 ?_ rfl hHeld ?_ ?_
       rotate_left
       ·(intro w hSw; (try dsimp only at hSw); go_simp; try with_reducible rfl)
       try simp only [pt]
       refine tk 5 ?_ rfl hHeld ?_ ?_
       rotate_left
       ·(intro w hSw; (try dsimp only at hSw); go_simp; try with_reducible rfl)
       try simp only [pt]
       refine tk 6 ?_ rfl hHeld ?_ ?_
       rotate_left
       ·(intro w hSw; (try dsimp only at hSw); go_simp; try with_reducible rfl)
       try simp only [pt]
       refine tk 7 ?_ rfl hHeld ?_ ?_
       rotate_left
       ·(intro w hSw; (try dsimp only at hSw); go_simp; try with_reducible rfl)
       try simp only [pt]
       refine tk 8 ?_ rfl hHeld ?_ ?_
       rotate_left
       ·(intro w hSw; (try dsimp only at hSw); go_simp; try with_reducible rfl)
       try simp only [pt]
       refine tk 9 ?_ rfl hHeld ?_ ?_
       rotate_left
       ·(intro w hSw; (try dsimp only at hSw); go_simp; try with_reducible rfl)
       try simp only [pt]
       refine tk 10 ?_ rfl hHeld ?_ ?_
       rotate_left
       ·(intro w hSw; (try dsimp only at hSw); go_simp; try with_reducible rfl)
       try simp only [pt]
       refine tk 11 ?_ rfl hHeld ?_ ?_
       rotate_left
       ·(intro w hSw; (try dsimp only at hSw); go_simp; try with_reducible rfl)
       try simp only [pt]
       refine tk 12 ?_ rfl hHeld ?_ ?_
       rotate_left
       ·(intro w hSw; (try dsimp only at hSw); go_simp; try with_reducible rfl)
       try simp only [pt]
       refine tk 13 ?_ rfl hHeld ?_ ?_
       rotate_left
       ·(intro w hSw; (try dsimp only at hSw); go_simp; try with_reducible rfl)
       try simp only [pt]
       refine rd [14] ?_
       refine AllReadyH.cons (dropAt rfl) (fun K hK => ?_) AllReadyH.nil
       go_simp
       go_at_call 73
       with_reducible refine (rcm.out _).mono ?_
       rintro e y2 ⟨rfl, hb⟩
       have HL_y2 := Kp.mk (HLz.out.step hb)
       obtain ⟨k0_y2, k1_y2, k2_y2, k3_y2⟩ := HL_y2.out.cells hr
       obtain ⟨k4_y2, k5_y2, k6_y2, k7_y2⟩ := HL_y2.out.cells hqs
       clear hHeld k0z k1z k2z k3z k4z k5z k6z k7z HLz hb
       go_wp2_with fail
       refine hK.out _ _ ?_ (fun hHeld => ?_)
       ·with_reducible exact ⟨k0_y2, k1_y2, k2_y2, k3_y2, k4_y2, k5_y2, k6_y2, k7_y2⟩
       clear hK K
       try simp only [pt]
       refine tk 15 ?_ rfl hHeld ?_ ?_
       rotate_left
       ·(intro w hSw; (try dsimp only at hSw); go_simp; try with_reducible rfl)
       try simp only [pt]
       refine tk 16 ?_ rfl hHeld ?_ ?_
       rotate_left
       ·(intro w hSw; (try dsimp only at hSw); go_simp; try with_reducible rfl)
       try simp only [pt]
       refine takeOut (i := 17) rfl (by kernel_rfl) (by kernel_rfl) (by kernel_rfl) (fun _ _ _ h => h) (by rfl) hHeld ?_
       try simp only [pt]
       refine takeOut (i := 18) rfl (by kernel_rfl) (by kernel_rfl) (by kernel_rfl) (fun _ _ _ h => h) (by rfl) hHeld ?_
       try simp only [pt]
       refine takeOut (i := 19) rfl (by kernel_rfl) (by kernel_rfl) (by kernel_rfl) (fun _ _ _ h => h) (by rfl) hHeld ?_
       try simp only [pt]
       refine takeOut (i := 20) rfl (by kernel_rfl) (by kernel_rfl) (by kernel_rfl) (fun _ _ _ h => h) (by rfl) hHeld ?_
       try simp only [pt]
       refine takeOut (i := 21) rfl (by kernel_rfl) (by kernel_rfl) (by kernel_rfl) (fun _ _ _ h => h) (by rfl) hHeld ?_
       try simp only [pt]
       refine takeOut (i := 22) rfl (by kernel_rfl) (by kernel_rfl) (by kernel_rfl) (fun _ _ _ h => h) (by rfl) hHeld ?_
       try simp only [pt]
       refine takeOut (i := 23) rfl (by kernel_rfl) (by kernel_rfl) (by kernel_rfl) (fun _ _ _ h => h) (by rfl) hHeld ?_
       try simp only [pt]
       refine takeOut (i := 24) rfl (by kernel_rfl) (by kernel_rfl) (by kernel_rfl) (fun _ _ _ h => h) (by rfl) hHeld ?_
       try simp only [pt]
       refine takeOut (i := 25) rfl (by kernel_rfl) (by kernel_rfl) (by kernel_rfl) (fun _ _ _ h => h) (by rfl) hHeld ?_
       try simp only [pt]
       refine takeOut (i := 26) rfl (by kernel_rfl) (by kernel_rfl) (by kernel_rfl) (fun _ _ _ h => h) (by rfl) hHeld ?_
       try simp only [pt]
       refine tk 27 ?_ rfl hHeld ?_ ?_
       rotate_left
       ·(intro w hSw; (try dsimp only at hSw); go_simp; try with_reducible rfl)
       try simp only [pt]
       refine tk 28 ?_ rfl hHeld ?_ ?_
       rotate_left
       ·(intro w hSw; (try dsimp only at hSw); go_simp; try with_reducible rfl)
       try simp only [pt]
       refine wpAnyH_done (by kernel_rfl) ?_ _
       clear hHeld
       have HL := HL_y2
       clear k0_y2 k1_y2 k2_y2 k3_y2 k4_y2 k5_y2 k6_y2 k7_y2
       go_wp2_with fail
       go_ret
       exact ⟨rfl, HL.out.below⟩
      ·have t4 : decide (0 ≤ x) = false := decide_eq_false h4
       have b6 : x < 0 := by omega
       obtain ⟨u, hu⟩ : ∃ u, decide (q.lo ≤ r.hi + 1 ∧ r.lo ≤ q.hi + 1) = u := ⟨_, rfl⟩
       have hu2 : touchN q r = u := by rw [← hu, Bool.eq_iff_iff, touch_iff hqo hok, decide_eq_true_iff]
       have rto := Kp.mk (fun w => refTouch_is hqo hok hu w)
       rw [hu2] at hq
       clear hu hu2
       cases u with
       | true =>
        rw [if_pos (.inr rfl)] at hq
        subst hq
        clear hv hok hri h3 hqo h4
        go_wp2_with fail
        refine (rc.out _).mono ?_
        rintro e y1 ⟨rfl, hbl⟩
        have HL := Kp.mk (HL.out.step hbl)
        clear hbl
        clear k0 k1 k2 k3
        go_upto_region 9 with fail
        have hbl := (Below.refl y1.heap.size y1).drew
        have HLz := Kp.mk (HL.out.step hbl)
        obtain ⟨k0z, k1z, k2z, k3z⟩ := HLz.out.cells hr
        obtain ⟨k4z, k5z, k6z, k7z⟩ := HLz.out.cells hqs
        clear hbl
        refine wp_region_held_drew (S := fun w' => w'.cell? ⟨g, s + p * 4, none⟩ = some (.int .i8 r.f) ∧ w'.cell? ⟨g, s + p * 4 + 1, none⟩ = some (.int .i64 r.d) ∧ w'.cell? ⟨g, s + p * 4 + 2, none⟩ = some (.int .i8 r.g) ∧ w'.cell? ⟨g, s + p * 4 + 3, none⟩ = some (.int .i64 r.e) ∧ w'.cell? ⟨g, s + (p - 1) * 4, none⟩ = some (.int .i8 q.f) ∧ w'.cell? ⟨g, s + (p - 1) * 4 + 1, none⟩ = some (.int .i64 q.d) ∧ w'.cell? ⟨g, s + (p - 1) * 4 + 2, none⟩ = some (.int .i8 q.g) ∧ w'.cell? ⟨g, s + (p - 1) * 4 + 3, none⟩ = some (.int .i64 q.e)) (by kernel_rfl) ?_ (fun hHeld => ?_)
        ·with_reducible exact ⟨k0z, k1z, k2z, k3z, k4z, k5z, k6z, k7z⟩
        refine tk 0 ?_ rfl hHeld ?_ ?_
        rotate_left
        ·(intro w hSw; (try dsimp only at hSw); go_simp; try with_reducible rfl)
        try simp only [pt]
        refine tk 1 ?_ rfl hHeld ?_ ?_
        rotate_left
        ·(intro w hSw; (try dsimp only at hSw); go_simp; try with_reducible rfl)
        try simp only [pt]
        refine tk 2 ?_ rfl hHeld ?_ ?_
        rotate_left
        ·(intro w hSw; (try dsimp only at hSw); go_simp; try with_reducible rfl)
        try simp only [pt]
        refine tk 3 ?_ rfl hHeld ?_ ?_
        rotate_left
        ·(intro w hSw; (try dsimp only at hSw); go_simp; try with_reducible rfl)
        try simp only [pt]
        refine tk 4 ?_ rfl hHeld ?_ ?_
        rotate_left
        ·(intro w hSw; (try dsimp only at hSw); go_simp; try with_reducible rfl)
        try simp only [pt]
        refine tk 5 ?_ rfl hHeld ?_ ?_
        rotate_left
        ·(intro w hSw; (try dsimp only at hSw); go_simp; try with_reducible rfl)
        try simp only [pt]
        refine tk 6 ?_ rfl hHeld ?_ ?_
        rotate_left
        ·(intro w hSw; (try dsimp only at hSw); go_simp; try with_reducible rfl)
        try simp only [pt]
        refine tk 7 ?_ rfl hHeld ?_ ?_
        rotate_left
        ·(intro w hSw; (try dsimp only at hSw); go_simp; try with_reducible rfl)
        try simp only [pt]
        refine tk 8 ?_ rfl hHeld ?_ ?_
        rotate_left
        ·(intro w hSw; (try dsimp only at hSw); go_simp; try with_reducible rfl)
        try simp only [pt]
        refine tk 9 ?_ rfl hHeld ?_ ?_
        rotate_left
        ·(intro w hSw; (try dsimp only at hSw); go_simp; try with_reducible rfl)
        try simp only [pt]
        refine tk 10 ?_ rfl hHeld ?_ ?_
        rotate_left
        ·(intro w hSw; (try dsimp only at hSw); go_simp; try with_reducible rfl)
        try simp only [pt]
        refine tk 11 ?_ rfl hHeld ?_ ?_
        rotate_left
        ·(intro w hSw; (try dsimp only at hSw); go_simp; try with_reducible rfl)
        try simp only [pt]
        refine tk 12 ?_ rfl hHeld ?_ ?_
        rotate_left
        ·(intro w hSw; (try dsimp only at hSw); go_simp; try with_reducible rfl)
        try simp only [pt]
        refine tk 13 ?_ rfl hHeld ?_ ?_
        rotate_left
        ·(intro w hSw; (try dsimp only at hSw); go_simp; try with_reducible rfl)
        try simp only [pt]
        refine rd [14] ?_
        refine AllReadyH.cons (dropAt rfl) (fun K hK => ?_) AllReadyH.nil
        go_simp
        go_at_call 73
        with_reducible refine (rcm.out _).mono ?_
        rintro e y2 ⟨rfl, hb⟩
        have HL_y2 := Kp.mk (HLz.out.step hb)
        obtain ⟨k0_y2, k1_y2, k2_y2, k3_y2⟩ := HL_y2.out.cells hr
        obtain ⟨k4_y2, k5_y2, k6_y2, k7_y2⟩ := HL_y2.out.cells hqs
        clear hHeld k0z k1z k2z k3z k4z k5z k6z k7z HLz hb
        go_wp2_with fail
        refine hK.out _ _ ?_ (fun hHeld => ?_)
        ·with_reducible exact ⟨k0_y2, k1_y2, k2_y2, k3_y2, k4_y2, k5_y2, k6_y2, k7_y2⟩
        clear hK K
        try simp only [pt]
        refine tk 15 ?_ rfl hHeld ?_ ?_
        rotate_left
        ·(intro w hSw; (try dsimp only at hSw); go_simp; try with_reducible rfl)
        try simp only [pt]
        refine tk 16 ?_ rfl hHeld ?_ ?_
        rotate_left
        ·(intro w hSw; (try dsimp only at hSw); go_simp; try with_reducible rfl)
        try simp only [pt]
        refine tk 17 ?_ rfl hHeld ?_ ?_
        rotate_left
        ·(intro w hSw; (try dsimp only at hSw); go_simp; try with_reducible rfl)
        try simp only [pt]
        refine tk 18 ?_ rfl hHeld ?_ ?_
        rotate_left
        ·(intro w hSw; (try dsimp only at hSw); go_simp; try with_reducible rfl)
        try simp only [pt]
        refine tk 19 ?_ rfl hHeld ?_ ?_
        rotate_left
        ·(intro w hSw; (try dsimp only at hSw); go_simp; try with_reducible rfl)
        try simp only [pt]
        refine tk 20 ?_ rfl hHeld ?_ ?_
        rotate_left
        ·(intro w hSw; (try dsimp only at hSw); go_simp; try with_reducible rfl)
        try simp only [pt]
        refine tk 21 ?_ rfl hHeld ?_ ?_
        rotate_left
        ·(intro w hSw; (try dsimp only at hSw); go_simp; try with_reducible rfl)
        try simp only [pt]
        refine tk 22 ?_ rfl hHeld ?_ ?_
        rotate_left
        ·(intro w hSw; (try dsimp only at hSw); go_simp; try with_reducible rfl)
        try simp only [pt]
        refine tk 23 ?_ rfl hHeld ?_ ?_
        rotate_left
        ·(intro w hSw; (try dsimp only at hSw); go_simp; try with_reducible rfl)
        try simp only [pt]
        refine tk 24 ?_ rfl hHeld ?_ ?_
        rotate_left
        ·(intro w hSw; (try dsimp only at hSw); go_simp; try with_reducible rfl)
        try simp only [pt]
        refine tk 25 ?_ rfl hHeld ?_ ?_
        rotate_left
        ·(intro w hSw; (try dsimp only at hSw); go_simp; try with_reducible rfl)
        try simp only [pt]
        refine rd [26] ?_
        refine AllReadyH.cons (dropAt rfl) (fun K hK => ?_) AllReadyH.nil
        go_simp
        go_at_call 18
        with_reducible refine (rto.out _).mono ?_
        rintro e y3 ⟨rfl, hb⟩
        have HL_y3 := Kp.mk (HL_y2.out.step hb)
        obtain ⟨k0_y3, k1_y3, k2_y3, k3_y3⟩ := HL_y3.out.cells hr
        obtain ⟨k4_y3, k5_y3, k6_y3, k7_y3⟩ := HL_y3.out.cells hqs
        clear hHeld k0_y2 k1_y2 k2_y2 k3_y2 k4_y2 k5_y2 k6_y2 k7_y2 HL_y2 hb
        go_wp2_with fail
        refine hK.out _ _ ?_ (fun hHeld => ?_)
        ·with_reducible exact ⟨k0_y3, k1_y3, k2_y3, k3_y3, k4_y3, k5_y3, k6_y3, k7_y3⟩
        clear hK K
        try simp only [pt]
        refine tk 27 ?_ rfl hHeld ?_ ?_
        rotate_left
        ·(intro w hSw; (try dsimp only at hSw); go_simp; try with_reducible rfl)
        try simp only [pt]
        refine tk 28 ?_ rfl hHeld ?_ ?_
        rotate_left
        ·(intro w hSw; (try dsimp only at hSw); go_simp; try with_reducible rfl)
        try simp only [pt]
        refine wpAnyH_done (by kernel_rfl) ?_ _
        clear hHeld
        have HL := HL_y3
        clear k0_y3 k1_y3 k2_y3 k3_y3 k4_y3 k5_y3 k6_y3 k7_y3
        go_wp2_with fail
        go_ret
        exact ⟨rfl, HL.out.below⟩
       | false =>
        rw [if_neg (by rintro (q | q); exact h4 q; cases q)] at hq
        have HO := Kp.mk (HO.out.more hok hr)
        clear hv hok hri h3 hqo h4
        go_wp2_with fail
        refine (rc.out _).mono ?_
        rintro e y1 ⟨rfl, hbl⟩
        have HL := Kp.mk (HL.out.step hbl)
        clear hbl
        clear k0 k1 k2 k3
        go_upto_region 9 with fail
        have hbl := (Below.refl y1.heap.size y1).drew
        have HLz := Kp.mk (HL.out.step hbl)
        obtain ⟨k0z, k1z, k2z, k3z⟩ := HLz.out.cells hr
        obtain ⟨k4z, k5z, k6z, k7z⟩ := HLz.out.cells hqs
        clear hbl
        refine wp_region_held_drew (S := fun w' => w'.cell? ⟨g, s + p * 4, none⟩ = some (.int .i8 r.f) ∧ w'.cell? ⟨g, s + p * 4 + 1, none⟩ = some (.int .i64 r.d) ∧ w'.cell? ⟨g, s + p * 4 + 2, none⟩ = some (.int .i8 r.g) ∧ w'.cell? ⟨g, s + p * 4 + 3, none⟩ = some (.int .i64 r.e) ∧ w'.cell? ⟨g, s + (p - 1) * 4, none⟩ = some (.int .i8 q.f) ∧ w'.cell? ⟨g, s + (p - 1) * 4 + 1, none⟩ = some (.int .i64 q.d) ∧ w'.cell? ⟨g, s + (p - 1) * 4 + 2, none⟩ = some (.int .i8 q.g) ∧ w'.cell? ⟨g, s + (p - 1) * 4 + 3, none⟩ = some (.int .i64 q.e)) (by kernel_rfl) ?_ (fun hHeld => ?_)
        ·with_reducible exact ⟨k0z, k1z, k2z, k3z, k4z, k5z, k6z, k7z⟩
        refine tk 0 ?_ rfl hHeld ?_ ?_
        rotate_left
        ·(intro w hSw; (try dsimp only at hSw); go_simp; try with_reducible rfl)
        try simp only [pt]
        refine tk 1 ?_ rfl hHeld ?_ ?_
        rotate_left
        ·(intro w hSw; (try dsimp only at hSw); go_simp; try with_reducible rfl)
        try simp only [pt]
        refine tk 2 ?_ rfl hHeld ?_ ?_
        rotate_left
        ·(intro w hSw; (try dsimp only at hSw); go_simp; try with_reducible rfl)
        try simp only [pt]
        refine tk 3 ?_ rfl hHeld ?_ ?_
        rotate_left
        ·(intro w hSw; (try dsimp only at hSw); go_simp; try with_reducible rfl)
        try simp only [pt]
        refine tk 4 ?_ rfl hHeld ?_ ?_
        rotate_left
        ·(intro w hSw; (try dsimp only at hSw); go_simp; try with_reducible rfl)
        try simp only [pt]
        refine tk 5 ?_ rfl hHeld ?_ ?_
        rotate_left
        ·(intro w hSw; (try dsimp only at hSw); go_simp; try with_reducible rfl)
        try simp only [pt]
        refine tk 6 ?_ rfl hHeld ?_ ?_
        rotate_left
        ·(intro w hSw; (try dsimp only at hSw); go_simp; try with_reducible rfl)
        try simp only [pt]
        refine tk 7 ?_ rfl hHeld ?_ ?_
        rotate_left
        ·(intro w hSw; (try dsimp only at hSw); go_simp; try with_reducible rfl)
        try simp only [pt]
        refine tk 8 ?_ rfl hHeld ?_ ?_
        rotate_left
        ·(intro w hSw; (try dsimp only at hSw); go_simp; try with_reducible rfl)
        try simp only [pt]
        refine tk 9 ?_ rfl hHeld ?_ ?_
        rotate_left
        ·(intro w hSw; (try dsimp only at hSw); go_simp; try with_reducible rfl)
        try simp only [pt]
        refine tk 10 ?_ rfl hHeld ?_ ?_
        rotate_left
        ·(intro w hSw; (try dsimp only at hSw); go_simp; try with_reducible rfl)
        try simp only [pt]
        refine tk 11 ?_ rfl hHeld ?_ ?_
        rotate_left
        ·(intro w hSw; (try dsimp only at hSw); go_simp; try with_reducible rfl)
        try simp only [pt]
        refine tk 12 ?_ rfl hHeld ?_ ?_
        rotate_left
        ·(intro w hSw; (try dsimp only at hSw); go_simp; try with_reducible rfl)
        try simp only [pt]
        refine tk 13 ?_ rfl hHeld ?_ ?_
        rotate_left
        ·(intro w hSw; (try dsimp only at hSw); go_simp; try with_reducible rfl)
        try simp only [pt]
        refine rd [14] ?_
        refine AllReadyH.cons (dropAt rfl) (fun K hK => ?_) AllReadyH.nil
        go_simp
        go_at_call 73
        with_reducible refine (rcm.out _).mono ?_
        rintro e y2 ⟨rfl, hb⟩
        have HL_y2 := Kp.mk (HLz.out.step hb)
        obtain ⟨k0_y2, k1_y2, k2_y2, k3_y2⟩ := HL_y2.out.cells hr
        obtain ⟨k4_y2, k5_y2, k6_y2, k7_y2⟩ := HL_y2.out.cells hqs
        clear hHeld k0z k1z k2z k3z k4z k5z k6z k7z HLz hb
        go_wp2_with fail
        refine hK.out _ _ ?_ (fun hHeld => ?_)
        ·with_reducible exact ⟨k0_y2, k1_y2, k2_y2, k3_y2, k4_y2, k5_y2, k6_y2, k7_y2⟩
        clear hK K
        try simp only [pt]
        refine tk 15 ?_ rfl hHeld ?_ ?_
        rotate_left
        ·(intro w hSw; (try dsimp only at hSw); go_simp; try with_reducible rfl)
        try simp only [pt]
        refine tk 16 ?_ rfl hHeld ?_ ?_
        rotate_left
        ·(intro w hSw; (try dsimp only at hSw); go_simp; try with_reducible rfl)
        try simp only [pt]
        refine tk 17 ?_ rfl hHeld ?_ ?_
        rotate_left
        ·(intro w hSw; (try dsimp only at hSw); go_simp; try with_reducible rfl)
        try simp only [pt]
        refine tk 18 ?_ rfl hHeld ?_ ?_
        rotate_left
        ·(intro w hSw; (try dsimp only at hSw); go_simp; try with_reducible rfl)
        try simp only [pt]
        refine tk 19 ?_ rfl hHeld ?_ ?_
        rotate_left
        ·(intro w hSw; (try dsimp only at hSw); go_simp; try with_reducible rfl)
        try simp only [pt]
        refine tk 20 ?_ rfl hHeld ?_ ?_
        rotate_left
        ·(intro w hSw; (try dsimp only at hSw); go_simp; try with_reducible rfl)
        try simp only [pt]
        refine tk 21 ?_ rfl hHeld ?_ ?_
        rotate_left
        ·(intro w hSw; (try dsimp only at hSw); go_simp; try with_reducible rfl)
        try simp only [pt]
        refine tk 22 ?_ rfl hHeld ?_ ?_
        rotate_left
        ·(intro w hSw; (try dsimp only at hSw); go_simp; try with_reducible rfl)
        try simp only [pt]
        refine tk 23 ?_ rfl hHeld ?_ ?_
        rotate_left
        ·(intro w hSw; (try dsimp only at hSw); go_simp; try with_reducible rfl)
        try simp only [pt]
        refine tk 24 ?_ rfl hHeld ?_ ?_
        rotate_left
        ·(intro w hSw; (try dsimp only at hSw); go_simp; try with_reducible rfl)
        try simp only [pt]
        refine tk 25 ?_ rfl hHeld ?_ ?_
        rotate_left
        ·(intro w hSw; (try dsimp only at hSw); go_simp; try with_reducible rfl)
        try simp only [pt]
        refine rd [26] ?_
        refine AllReadyH.cons (dropAt rfl) (fun K hK => ?_) AllReadyH.nil
        go_simp
        go_at_call 18
        with_reducible refine (rto.out _).mono ?_
        rintro e y3 ⟨rfl, hb⟩
        have HL_y3 := Kp.mk (HL_y2.out.step hb)
        obtain ⟨k0_y3, k1_y3, k2_y3, k3_y3⟩ := HL_y3.out.cells hr
        obtain ⟨k4_y3, k5_y3, k6_y3, k7_y3⟩ := HL_y3.out.cells hqs
        clear hHeld k0_y2 k1_y2 k2_y2 k3_y2 k4_y2 k5_y2 k6_y2 k7_y2 HL_y2 hb
        go_wp2_with fail
        refine hK.out _ _ ?_ (fun hHeld => ?_)
        ·with_reducible exact ⟨k0_y3, k1_y3, k2_y3, k3_y3, k4_y3, k5_y3, k6_y3, k7_y3⟩
        clear hK K
        try simp only [pt]
        refine tk 27 ?_ rfl hHeld ?_ ?_
        rotate_left
        ·(intro w hSw; (try dsimp only at hSw); go_simp; try with_reducible rfl)
        try simp only [pt]
        refine tk 28 ?_ rfl hHeld ?_ ?_
        rotate_left
        ·(intro w hSw; (try dsimp only at hSw); go_simp; try with_reducible rfl)
        try simp only [pt]
        refine wpAnyH_done (by kernel_rfl) ?_ _
        clear hHeld
        have HL := HL_y3
        clear k0_y3 k1_y3 k2_y3 k3_y3 k4_y3 k5_y3 k6_y3 k7_y3
        go_wp2_with fail
        go_roundw
        case rel => exact ⟨p + 1, by omega, by go_num, by show chkFrom (l[p]?) _ = _; rw [hr]; exact hq, HO, HL⟩
        case measure => simp [intOf]; omega
    ·have hq : v = c := by rw [← hq, ← hv]; unfold chkFrom; rw [if_neg (by rw [hv]; exact h2)]
     have t2 : (v != 0) = true := by rw [bne_iff_ne]; exact h2
     subst hq
     clear hv hri h2
     go_wp2_with fail
     refine (rc.out _).mono ?_
     rintro e v1 ⟨rfl, hbl⟩
     have HL := Kp.mk (HL.out.step hbl)
     clear hbl k0 k1 k2 k3
     go_wp2_with fail
     go_ret
     exact ⟨rfl, HL.out.below⟩
   ·obtain rfl : p = n := by omega
    rw [List.drop_of_length_le (by omega)] at hq
    obtain rfl : 0 = c := by rw [← hq]; cases prvR l p <;> rfl
    go_wp2_with fail
    go_ret
    exact ⟨rfl, HL.out.below⟩
end Go.Proofs.YtndjcmclmhoigaaGreatDoor
