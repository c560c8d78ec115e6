/-
 DERIVED. CONTRACTS of package runsets (the developers' functions): a stretch of the sweep. Written by mkrsd4.py.
-/
import Derived.Test.YtndjcmclmhoigaaGreatDoorPRsDvB
import Derived.Shelf.Abstract
namespace Go.Proofs.YtndjcmclmhoigaaGreatDoor
open Go.RowKit
set_option maxRecDepth 100000

variable {w W W' u : World} {a b : Option Addr} {l m la lb : List Rn} {k : Nat} {q : Int} {fk : Nat}
/-- nothing old has turned but two boxes -/
structure Chg (k : Nat) (W W' : World) : Prop where
 os : W'.os = W.os
 tape : W'.tape = W.tape
 output : W'.output = W.output
 size : W.heap.size ≤ W'.heap.size
 block : ∀ i, i < W.heap.size → i ≠ k → i ≠ k + 1 → W'.heap[i]? = W.heap[i]?
theorem Chg.step (h : Chg k W u) (hb : Below u.heap.size u W') : Chg k W W' :=
 ⟨hb.os.trans h.os, hb.tape.trans h.tape, hb.output.trans h.output, Nat.le_trans h.size hb.size, fun i hi h1 h2 => (hb.block i (Nat.lt_of_lt_of_le hi h.size)).trans (h.block i hi h1 h2)⟩
theorem chg_refl (k : Nat) (W : World) : Chg k W W := ⟨rfl, rfl, rfl, Nat.le_refl _, fun _ _ _ _ => rfl⟩
theorem Chg.trans (h : Chg k W u) (g : Chg k u W') : Chg k W W' :=
 ⟨g.os.trans h.os, g.tape.trans h.tape, g.output.trans h.output, Nat.le_trans h.size g.size, fun i hi h1 h2 => (g.block i (Nat.lt_of_lt_of_le hi h.size) h1 h2).trans (h.block i hi h1 h2)⟩
theorem Chg.set (h : Chg k W u) {j : Nat} (hj : j = k ∨ j = k + 1) (y : Value) : Chg k W (u.setCell ⟨j, 0, none⟩ y) :=
 ⟨h.os, h.tape, h.output, by have : (u.setCell ⟨j, 0, none⟩ y).heap.size = u.heap.size := by simp [World.setCell]
                             rw [this]; exact h.size, fun i hi h1 h2 => by
  have hne : i ≠ j := by rcases hj with rfl | rfl <;> assumption
  rw [heap_setCell_other u (⟨j, 0, none⟩ : Addr) i y hne]
  exact h.block i hi h1 h2⟩
theorem Chg.below (h : Chg k W W') (hb : Below w.heap.size w W) (hk : w.heap.size ≤ k) : Below w.heap.size w W' :=
 hb.trans ⟨h.os, h.tape, h.output, h.size, fun i hi => h.block i (Nat.lt_of_lt_of_le hi hb.size) (by omega) (by omega)⟩
theorem Ob.chg {i : Nat} {t : TypeId} {cs : Array Value} (h : Ob w i t cs W) (hc : Chg k W W') (hk : w.heap.size ≤ k) (h1 : i ≠ k) (h2 : i ≠ k + 1) : Ob w i t cs W' :=
 ⟨hc.below h.below hk, h.base, by rw [hc.block i h.lt h1 h2]; exact h.heap⟩
theorem Ob.other1 {i j : Nat} {t : TypeId} {cs : Array Value} (h : Ob w i t cs W) (hj : w.heap.size ≤ j) (hn : i ≠ j) (y : Value) : Ob w i t cs (W.setCell ⟨j, 0, none⟩ y) :=
 ⟨h.below.setCell (p := ⟨j, 0, none⟩) hj y, h.base, by rw [heap_setCell_other W (⟨j, 0, none⟩ : Addr) i y hn]; exact h.heap⟩
theorem Ob.otherO {i j : Nat} {t : TypeId} {cs : Array Value} (h : Ob w i t cs W) (hj : w.heap.size ≤ j) (hn : i ≠ j) (o : Nat) (y : Value) : Ob w i t cs (W.setCell ⟨j, o, none⟩ y) :=
 ⟨h.below.setCell (p := ⟨j, o, none⟩) hj y, h.base, by rw [heap_setCell_other W (⟨j, o, none⟩ : Addr) i y hn]; exact h.heap⟩
theorem Chg.own (h : Chg k W u) {j : Nat} (hj : W.heap.size ≤ j) (o : Nat) (y : Value) : Chg k W (u.setCell ⟨j, o, none⟩ y) :=
 ⟨h.os, h.tape, h.output, by have : (u.setCell ⟨j, o, none⟩ y).heap.size = u.heap.size := by simp [World.setCell]
                             rw [this]; exact h.size, fun i hi h1 h2 => by
  rw [heap_setCell_other u (⟨j, o, none⟩ : Addr) i y (by show i ≠ j; omega)]
  exact h.block i hi h1 h2⟩
theorem Ob.up {w' : World} {i : Nat} {t : TypeId} {cs : Array Value} (h : Ob w' i t cs W) (hb : Below w.heap.size w w') : Ob w i t cs W := ⟨hb.trans (h.below.mono hb.size), Nat.le_trans hb.size h.base, h.heap⟩
/-- the boxes of the sweep: what remains of both lists, the function that says what is kept -/
structure Bxs (w : World) (k : Nat) (la lb : List Rn) (q : Int) (fk : Nat) (W : World) : Prop where
 a : ∃ b t c, Ob w k 60 #[.slice b t.length c] W ∧ Arc w b t c ∧ Rest la t q
 b : ∃ b t c, Ob w (k + 1) 60 #[.slice b t.length c] W ∧ Arc w b t c ∧ Rest lb t q
 f : Ob w (k + 1 + 1) 143 #[.func (.func fk) #[] #[]] W
theorem Bxs.step (h : Bxs w k la lb q fk W) (hb : Below W.heap.size W W') : Bxs w k la lb q fk W' := by
 obtain ⟨⟨b1, t1, c1, h1, h2⟩, ⟨b2, t2, c2, h3, h4⟩, h5⟩ := h
 exact ⟨⟨b1, t1, c1, h1.step hb, h2⟩, ⟨b2, t2, c2, h3.step hb, h4⟩, h5.step hb⟩
theorem Bxs.more {q' : Int} (h : Bxs w k la lb q fk W) (hq : q ≤ q') : Bxs w k la lb q' fk W := by
 obtain ⟨⟨b1, t1, c1, h1, h2, h3⟩, ⟨b2, t2, c2, h4, h5, h6⟩, h7⟩ := h
 exact ⟨⟨b1, t1, c1, h1, h2, h3.more hq⟩, ⟨b2, t2, c2, h4, h5, h6.more hq⟩, h7⟩
theorem Bxs.here (h : Bxs w k la lb q fk W) : Below w.heap.size w W := h.f.below
theorem Ob.cs1 {i : Nat} {t : TypeId} {x : Value} (h : Ob w i t #[x] W) : W.cell? ⟨i, 0, none⟩ = some x := h.cell rfl
theorem Ob.cs2 {i : Nat} {t : TypeId} {x y : Value} (h : Ob w i t #[x, y] W) : W.cell? ⟨i, 0, none⟩ = some x ∧ W.cell? ⟨i, 1, none⟩ = some y := ⟨h.cell rfl, h.cell rfl⟩
/-- the lesser of two ends, by their ranks -/
def minI (p q : Int) : Int := if p ≤ q then p else q
theorem dMin_rk {p q : Int} (p0 : -9223372036854775809 ≤ p) (p1 : p ≤ 9223372036854775808) (q0 : -9223372036854775809 ≤ q) (q1 : q ≤ 9223372036854775808) (u : World) :
 Calls Tryz.prog 79 #[.agg #[.int .i8 (eF p), .int .i64 (eD p)], .agg #[.int .i8 (eF q), .int .i64 (eD q)]] u fun x w' => x = .returned (.agg #[.int .i8 (eF (minI p q)), .int .i64 (eD (minI p q))]) ∧ Below u.heap.size u w' := by
 have hc := cmp_e p0 p1 q0 q1
 unfold minI
 rcases cmpI_cases p q with h | h | h
 ·rw [if_pos (by omega)]
  exact dMin_lt (by rw [hc]; exact h.2) u
 ·obtain ⟨rfl, h2⟩ := h
  rw [if_pos (Int.le_refl _)]
  exact dMin_ge (v := 0) (by rw [hc]; exact h2) (by omega) u
 ·rw [if_neg (by omega)]
  exact dMin_ge (v := 1) (by rw [hc]; exact h.2) (by omega) u
set_option maxHeartbeats 8000000 in
theorem dStretch_is {kf : Bool → Bool → Bool} (eg : ∀ args w, (callFunc fk args).run Tryz.prog w = .ok (.enter fk args) w) (hk : ∀ (x y : Bool) (u : World), Calls Tryz.prog fk #[.bool x, .bool y] u fun e w' => e = .returned (.bool (kf x y)) ∧ Below u.heap.size u w')
 (ca : RsCan la) (cb : RsCan lb) (q0 : -9223372036854775809 ≤ q) (q1 : q ≤ 9223372036854775808) (hG : LaidRs w) (w' : World) (hS : Bxs w k la lb q fk w') :
 Calls Tryz.prog 147 #[.agg #[.int .i8 (eF q), .int .i64 (eD q)], .pointer (some ⟨k, 0, none⟩), .pointer (some ⟨k + 1, 0, none⟩), .pointer (some ⟨k + 1 + 1, 0, none⟩)] w' fun x W =>
  (∃ ta tb, Rest la ta q ∧ Head ta q ∧ Rest lb tb q ∧ Head tb q ∧ x = .returned (.tuple #[.bool (kf (reachK ta q) (reachK tb q)), .agg #[.int .i8 (eF (minI (reachQ ta q) (reachQ tb q))), .int .i64 (eD (minI (reachQ ta q) (reachQ tb q)))]])) ∧ Bxs w k la lb q fk W ∧ Chg k w' W := by
 obtain ⟨⟨b1, t1, c1, h1, h2, h3⟩, ⟨b2, t2, c2, h4, h5, h6⟩, h7⟩ := hS
 have hbw := h1.below
 have r1 := Kp.mk (fun (u : World) (h : Below w.heap.size w u) => dRest_is ca q0 q1 h2 h3 u h)
 have r2 := Kp.mk (fun (u : World) (h : Below w.heap.size w u) => dRest_is cb q0 q1 h5 h6 u h)
 have HQ := Kp.mk (And.intro q0 q1)
 have HCA := Kp.mk (And.intro ca cb)
 have HGW := Kp.mk hG
 have HK := Kp.mk hk
 obtain ⟨ef, hef⟩ : ∃ x, eF q = x := ⟨_, rfl⟩
 obtain ⟨ed, hed⟩ : ∃ x, eD q = x := ⟨_, rfl⟩
 have HE := Kp.mk (And.intro hef hed)
 rw [hef, hed]
 rw [hef, hed] at r1 r2
 have hx := ob_new 24 #[.int .i8 ef, .int .i64 ed] (Below.refl w'.heap.size w')
 have hy := ob_new 24 #[.int .i8 0, .int .i64 0] hx.below
 have hxb := (Below.refl (w'.alloc (.cells #[.int .i8 ef, .int .i64 ed] 24)).heap.size (w'.alloc (.cells #[.int .i8 ef, .int .i64 ed] 24))).alloc (Nat.le_refl _) (.cells #[.int .i8 0, .int .i64 0] 24)
 rw [World.size_alloc] at hy
 have HX := Kp.mk ((hx.step hxb).up hbw)
 have HR := Kp.mk (hy.up hbw)
 have H1 := Kp.mk (h1.step hy.below)
 have H2 := Kp.mk (h4.step hy.below)
 have H3 := Kp.mk (h7.step hy.below)
 have HC := Kp.mk ((chg_refl k w').step hy.below)
 have HN : Kp (k + 1 + 1 < w'.heap.size) := Kp.mk h7.lt
 clear h1 h2 h3 h4 h5 h6 h7 hbw ca cb q0 q1 hG hk hef hed hx hy hxb
 generalize t1.length = n1 at *
 generalize t2.length = n2 at *
 go_enter Tryz.func147, Tryz.ntmps147
 go_upto_region 1 with fail
 generalize (w'.alloc (.cells #[.int .i8 ef, .int .i64 ed] 24)).alloc (.cells #[.int .i8 0, .int .i64 0] 24) = u0 at *
 obtain ⟨gx, hgx⟩ : ∃ gx, w'.heap.size = gx := ⟨_, rfl⟩
 have HGX := Kp.mk hgx
 rw [hgx] at HX HR HN ⊢
 clear hgx
 have hbl := (Below.refl u0.heap.size u0).drew
 have H1 := Kp.mk (H1.out.step hbl)
 have H2 := Kp.mk (H2.out.step hbl)
 have H3 := Kp.mk (H3.out.step hbl)
 have HX := Kp.mk (HX.out.step hbl)
 have HR := Kp.mk (HR.out.step hbl)
 have HC := Kp.mk (HC.out.step hbl)
 clear hbl
 refine wp_region_held_drew (S := fun w' => w'.cell? ⟨gx, 0, none⟩ = some (.int .i8 ef) ∧ w'.cell? ⟨gx, 1, none⟩ = some (.int .i64 ed)) (by kernel_rfl) ?_ (fun hHeld => ?_)
 ·exact ⟨HX.out.cell rfl, HX.out.cell rfl⟩
 generalize u0.drew = vz at *
 refine tk 1 ?_ rfl hHeld ?_ ?_
 rotate_left
 ·(intro w hSw; (try dsimp only at hSw); go_simp; try with_reducible rfl)
 try simp only [pt]
 refine tk 4 ?_ rfl hHeld ?_ ?_
 rotate_left
 ·(intro w hSw; (try dsimp only at hSw); go_simp; try with_reducible rfl)
 try simp only [pt]
 refine rd [0, 3] ?_
 refine AllReadyH.cons (dropAt rfl) (fun K hK => ?_) (AllReadyH.cons (dropAt rfl) (fun K hK => ?_) AllReadyH.nil)
 focus
  clear hHeld
  have q1 := H1.out.cell (j := 0) rfl
  go_simp
  clear q1
  refine hK.out _ _ ?_ (fun hHeld => ?_)
  ·exact ⟨HX.out.cell rfl, HX.out.cell rfl⟩
  clear hK K
  try simp only [pt]
  refine rd [2, 3] ?_
  refine AllReadyH.cons (dropAt rfl) (fun K hK => ?_) (AllReadyH.cons (dropAt rfl) (fun K hK => ?_) AllReadyH.nil)
  focus
   clear hHeld
   go_simp
   go_at_call 148
   with_reducible refine (r1.out _ H1.out.below).mono ?_
   rintro e v1 ⟨⟨b1, t1, c1, rfl, hx1, hx2, hx3⟩, hb⟩
   have HA1 := Kp.mk (And.intro hx1 (And.intro hx2 hx3))
   have H1 := Kp.mk (H1.out.step hb)
   have H2 := Kp.mk (H2.out.step hb)
   have H3 := Kp.mk (H3.out.step hb)
   have HX := Kp.mk (HX.out.step hb)
   have HR := Kp.mk (HR.out.step hb)
   have HC := Kp.mk (HC.out.step hb)
   clear hb hx1 hx2 hx3
   go_wp2_with fail
   refine hK.out _ _ ?_ (fun hHeld => ?_)
   ·exact ⟨HX.out.cell rfl, HX.out.cell rfl⟩
   clear hK K
   try simp only [pt]
   refine rd [3] ?_
   refine AllReadyH.cons (dropAt rfl) (fun K hK => ?_) AllReadyH.nil
   clear hHeld
   have q1 := H2.out.cell (j := 0) rfl
   go_simp
   clear q1
   refine hK.out _ _ ?_ (fun hHeld => ?_)
   ·exact ⟨HX.out.cell rfl, HX.out.cell rfl⟩
   clear hK K
   try simp only [pt]
   refine rd [5] ?_
   refine AllReadyH.cons (dropAt rfl) (fun K hK => ?_) AllReadyH.nil
   clear hHeld
   go_simp
   go_at_call 148
   with_reducible refine (r2.out _ H1.out.below).mono ?_
   rintro e v2 ⟨⟨b2, t2, c2, rfl, hx1, hx2, hx3⟩, hb⟩
   have HA2 := Kp.mk (And.intro hx1 (And.intro hx2 hx3))
   have H1 := Kp.mk (H1.out.step hb)
   have H2 := Kp.mk (H2.out.step hb)
   have H3 := Kp.mk (H3.out.step hb)
   have HX := Kp.mk (HX.out.step hb)
   have HR := Kp.mk (HR.out.step hb)
   have HC := Kp.mk (HC.out.step hb)
   clear hb hx1 hx2 hx3
   go_wp2_with fail
   refine hK.out _ _ ?_ (fun hHeld => ?_)
   ·exact ⟨HX.out.cell rfl, HX.out.cell rfl⟩
   clear hK K
   try simp only [pt]
   refine rd [6] ?_
   refine AllReadyH.cons (dropAt rfl) (fun K hK => ?_) AllReadyH.nil
   clear hHeld
   have q1 := H1.out.cell (j := 0) rfl
   have f1 := H1.out.frozen 0
   go_simp
   clear q1 f1
   have hbs := H1.out.base
   have n1 := H1.out.lt
   have n2 := HN.out
   have H2 := Kp.mk (H2.out.other1 hbs (by omega) (.slice b1 t1.length c1))
   have H3 := Kp.mk (H3.out.other1 hbs (by omega) (.slice b1 t1.length c1))
   have HX := Kp.mk (HX.out.other1 hbs (by omega) (.slice b1 t1.length c1))
   have HR := Kp.mk (HR.out.other1 hbs (by omega) (.slice b1 t1.length c1))
   have HC := Kp.mk (HC.out.set (.inl rfl) (.slice b1 t1.length c1))
   have H1 := Kp.mk (H1.out.put1 (.slice b1 t1.length c1))
   clear hbs n1 n2
   generalize (v2.setCell ⟨k, 0, none⟩ (.slice b1 t1.length c1)) = v3 at *
   refine hK.out _ _ ?_ (fun hHeld => ?_)
   ·exact ⟨HX.out.cell rfl, HX.out.cell rfl⟩
   clear hK K
   try simp only [pt]
   refine rd [7] ?_
   refine AllReadyH.cons (dropAt rfl) (fun K hK => ?_) AllReadyH.nil
   clear hHeld
   have q1 := H2.out.cell (j := 0) rfl
   have f1 := H2.out.frozen 0
   go_simp
   clear q1 f1
   have hbs := H2.out.base
   have n1 := H1.out.lt
   have n2 := HN.out
   have H1 := Kp.mk (H1.out.other1 hbs (by omega) (.slice b2 t2.length c2))
   have H3 := Kp.mk (H3.out.other1 hbs (by omega) (.slice b2 t2.length c2))
   have HX := Kp.mk (HX.out.other1 hbs (by omega) (.slice b2 t2.length c2))
   have HR := Kp.mk (HR.out.other1 hbs (by omega) (.slice b2 t2.length c2))
   have HC := Kp.mk (HC.out.set (.inr rfl) (.slice b2 t2.length c2))
   have H2 := Kp.mk (H2.out.put1 (.slice b2 t2.length c2))
   clear hbs n1 n2
   generalize (v3.setCell ⟨k + 1, 0, none⟩ (.slice b2 t2.length c2)) = v4 at *
   refine hK.out _ _ ?_ (fun hHeld => ?_)
   ·exact ⟨HX.out.cell rfl, HX.out.cell rfl⟩
   clear hK K
   try simp only [pt]
   refine wpAnyH_done (by kernel_rfl) ?_ _
   clear hHeld
  rotate_left
  focus
   clear hHeld
   have q1 := H2.out.cell (j := 0) rfl
   go_simp
   clear q1
   refine hK.out _ _ ?_ (fun hHeld => ?_)
   ·exact ⟨HX.out.cell rfl, HX.out.cell rfl⟩
   clear hK K
   try simp only [pt]
   refine rd [2] ?_
   refine AllReadyH.cons (dropAt rfl) (fun K hK => ?_) AllReadyH.nil
   clear hHeld
   go_simp
   go_at_call 148
   with_reducible refine (r1.out _ H1.out.below).mono ?_
   rintro e v1 ⟨⟨b1, t1, c1, rfl, hx1, hx2, hx3⟩, hb⟩
   have HA1 := Kp.mk (And.intro hx1 (And.intro hx2 hx3))
   have H1 := Kp.mk (H1.out.step hb)
   have H2 := Kp.mk (H2.out.step hb)
   have H3 := Kp.mk (H3.out.step hb)
   have HX := Kp.mk (HX.out.step hb)
   have HR := Kp.mk (HR.out.step hb)
   have HC := Kp.mk (HC.out.step hb)
   clear hb hx1 hx2 hx3
   go_wp2_with fail
   refine hK.out _ _ ?_ (fun hHeld => ?_)
   ·exact ⟨HX.out.cell rfl, HX.out.cell rfl⟩
   clear hK K
   try simp only [pt]
   refine rd [5] ?_
   refine AllReadyH.cons (dropAt rfl) (fun K hK => ?_) AllReadyH.nil
   clear hHeld
   go_simp
   go_at_call 148
   with_reducible refine (r2.out _ H1.out.below).mono ?_
   rintro e v2 ⟨⟨b2, t2, c2, rfl, hx1, hx2, hx3⟩, hb⟩
   have HA2 := Kp.mk (And.intro hx1 (And.intro hx2 hx3))
   have H1 := Kp.mk (H1.out.step hb)
   have H2 := Kp.mk (H2.out.step hb)
   have H3 := Kp.mk (H3.out.step hb)
   have HX := Kp.mk (HX.out.step hb)
   have HR := Kp.mk (HR.out.step hb)
   have HC := Kp.mk (HC.out.step hb)
   clear hb hx1 hx2 hx3
   go_wp2_with fail
   refine hK.out _ _ ?_ (fun hHeld => ?_)
   ·exact ⟨HX.out.cell rfl, HX.out.cell rfl⟩
   clear hK K
   try simp only [pt]
   refine rd [6] ?_
   refine AllReadyH.cons (dropAt rfl) (fun K hK => ?_) AllReadyH.nil
   clear hHeld
   have q1 := H1.out.cell (j := 0) rfl
   have f1 := H1.out.frozen 0
   go_simp
   clear q1 f1
   have hbs := H1.out.base
   have n1 := H1.out.lt
   have n2 := HN.out
   have H2 := Kp.mk (H2.out.other1 hbs (by omega) (.slice b1 t1.length c1))
   have H3 := Kp.mk (H3.out.other1 hbs (by omega) (.slice b1 t1.length c1))
   have HX := Kp.mk (HX.out.other1 hbs (by omega) (.slice b1 t1.length c1))
   have HR := Kp.mk (HR.out.other1 hbs (by omega) (.slice b1 t1.length c1))
   have HC := Kp.mk (HC.out.set (.inl rfl) (.slice b1 t1.length c1))
   have H1 := Kp.mk (H1.out.put1 (.slice b1 t1.length c1))
   clear hbs n1 n2
   generalize (v2.setCell ⟨k, 0, none⟩ (.slice b1 t1.length c1)) = v3 at *
   refine hK.out _ _ ?_ (fun hHeld => ?_)
   ·exact ⟨HX.out.cell rfl, HX.out.cell rfl⟩
   clear hK K
   try simp only [pt]
   refine rd [7] ?_
   refine AllReadyH.cons (dropAt rfl) (fun K hK => ?_) AllReadyH.nil
   clear hHeld
   have q1 := H2.out.cell (j := 0) rfl
   have f1 := H2.out.frozen 0
   go_simp
   clear q1 f1
   have hbs := H2.out.base
   have n1 := H1.out.lt
   have n2 := HN.out
   have H1 := Kp.mk (H1.out.other1 hbs (by omega) (.slice b2 t2.length c2))
   have H3 := Kp.mk (H3.out.other1 hbs (by omega) (.slice b2 t2.length c2))
   have HX := Kp.mk (HX.out.other1 hbs (by omega) (.slice b2 t2.length c2))
   have HR := Kp.mk (HR.out.other1 hbs (by omega) (.slice b2 t2.length c2))
   have HC := Kp.mk (HC.out.set (.inr rfl) (.slice b2 t2.length c2))
   have H2 := Kp.mk (H2.out.put1 (.slice b2 t2.length c2))
   clear hbs n1 n2
   generalize (v3.setCell ⟨k + 1, 0, none⟩ (.slice b2 t2.length c2)) = v4 at *
   refine hK.out _ _ ?_ (fun hHeld => ?_)
   ·exact ⟨HX.out.cell rfl, HX.out.cell rfl⟩
   clear hK K
   try simp only [pt]
   refine wpAnyH_done (by kernel_rfl) ?_ _
   clear hHeld
 rotate_left 2
 focus
  clear hHeld
  have q1 := H2.out.cell (j := 0) rfl
  go_simp
  clear q1
  refine hK.out _ _ ?_ (fun hHeld => ?_)
  ·exact ⟨HX.out.cell rfl, HX.out.cell rfl⟩
  clear hK K
  try simp only [pt]
  refine rd [0] ?_
  refine AllReadyH.cons (dropAt rfl) (fun K hK => ?_) AllReadyH.nil
  clear hHeld
  have q1 := H1.out.cell (j := 0) rfl
  go_simp
  clear q1
  refine hK.out _ _ ?_ (fun hHeld => ?_)
  ·exact ⟨HX.out.cell rfl, HX.out.cell rfl⟩
  clear hK K
  try simp only [pt]
  refine rd [2] ?_
  refine AllReadyH.cons (dropAt rfl) (fun K hK => ?_) AllReadyH.nil
  clear hHeld
  go_simp
  go_at_call 148
  with_reducible refine (r1.out _ H1.out.below).mono ?_
  rintro e v1 ⟨⟨b1, t1, c1, rfl, hx1, hx2, hx3⟩, hb⟩
  have HA1 := Kp.mk (And.intro hx1 (And.intro hx2 hx3))
  have H1 := Kp.mk (H1.out.step hb)
  have H2 := Kp.mk (H2.out.step hb)
  have H3 := Kp.mk (H3.out.step hb)
  have HX := Kp.mk (HX.out.step hb)
  have HR := Kp.mk (HR.out.step hb)
  have HC := Kp.mk (HC.out.step hb)
  clear hb hx1 hx2 hx3
  go_wp2_with fail
  refine hK.out _ _ ?_ (fun hHeld => ?_)
  ·exact ⟨HX.out.cell rfl, HX.out.cell rfl⟩
  clear hK K
  try simp only [pt]
  refine rd [5] ?_
  refine AllReadyH.cons (dropAt rfl) (fun K hK => ?_) AllReadyH.nil
  clear hHeld
  go_simp
  go_at_call 148
  with_reducible refine (r2.out _ H1.out.below).mono ?_
  rintro e v2 ⟨⟨b2, t2, c2, rfl, hx1, hx2, hx3⟩, hb⟩
  have HA2 := Kp.mk (And.intro hx1 (And.intro hx2 hx3))
  have H1 := Kp.mk (H1.out.step hb)
  have H2 := Kp.mk (H2.out.step hb)
  have H3 := Kp.mk (H3.out.step hb)
  have HX := Kp.mk (HX.out.step hb)
  have HR := Kp.mk (HR.out.step hb)
  have HC := Kp.mk (HC.out.step hb)
  clear hb hx1 hx2 hx3
  go_wp2_with fail
  refine hK.out _ _ ?_ (fun hHeld => ?_)
  ·exact ⟨HX.out.cell rfl, HX.out.cell rfl⟩
  clear hK K
  try simp only [pt]
  refine rd [6] ?_
  refine AllReadyH.cons (dropAt rfl) (fun K hK => ?_) AllReadyH.nil
  clear hHeld
  have q1 := H1.out.cell (j := 0) rfl
  have f1 := H1.out.frozen 0
  go_simp
  clear q1 f1
  have hbs := H1.out.base
  have n1 := H1.out.lt
  have n2 := HN.out
  have H2 := Kp.mk (H2.out.other1 hbs (by omega) (.slice b1 t1.length c1))
  have H3 := Kp.mk (H3.out.other1 hbs (by omega) (.slice b1 t1.length c1))
  have HX := Kp.mk (HX.out.other1 hbs (by omega) (.slice b1 t1.length c1))
  have HR := Kp.mk (HR.out.other1 hbs (by omega) (.slice b1 t1.length c1))
  have HC := Kp.mk (HC.out.set (.inl rfl) (.slice b1 t1.length c1))
  have H1 := Kp.mk (H1.out.put1 (.slice b1 t1.length c1))
  clear hbs n1 n2
  generalize (v2.setCell ⟨k, 0, none⟩ (.slice b1 t1.length c1)) = v3 at *
  refine hK.out _ _ ?_ (fun hHeld => ?_)
  ·exact ⟨HX.out.cell rfl, HX.out.cell rfl⟩
  clear hK K
  try simp only [pt]
  refine rd [7] ?_
  refine AllReadyH.cons (dropAt rfl) (fun K hK => ?_) AllReadyH.nil
  clear hHeld
  have q1 := H2.out.cell (j := 0) rfl
  have f1 := H2.out.frozen 0
  go_simp
  clear q1 f1
  have hbs := H2.out.base
  have n1 := H1.out.lt
  have n2 := HN.out
  have H1 := Kp.mk (H1.out.other1 hbs (by omega) (.slice b2 t2.length c2))
  have H3 := Kp.mk (H3.out.other1 hbs (by omega) (.slice b2 t2.length c2))
  have HX := Kp.mk (HX.out.other1 hbs (by omega) (.slice b2 t2.length c2))
  have HR := Kp.mk (HR.out.other1 hbs (by omega) (.slice b2 t2.length c2))
  have HC := Kp.mk (HC.out.set (.inr rfl) (.slice b2 t2.length c2))
  have H2 := Kp.mk (H2.out.put1 (.slice b2 t2.length c2))
  clear hbs n1 n2
  generalize (v3.setCell ⟨k + 1, 0, none⟩ (.slice b2 t2.length c2)) = v4 at *
  refine hK.out _ _ ?_ (fun hHeld => ?_)
  ·exact ⟨HX.out.cell rfl, HX.out.cell rfl⟩
  clear hK K
  try simp only [pt]
  refine wpAnyH_done (by kernel_rfl) ?_ _
  clear hHeld
 all_goals
  have r3 := Kp.mk (fun (u : World) (h : Below w.heap.size w u) => dReach_rk (HA1.out.2.1.can HCA.out.1) HQ.out.1 HQ.out.2 HA1.out.1 u h (HGW.out.below h))
  have hs1 := reach_is HCA.out.1 HA1.out.2.1 HA1.out.2.2 HQ.out.2
  have HQ1 := Kp.mk (And.intro (Int.le_trans HQ.out.1 hs1.1) hs1.2.1)
  obtain ⟨kb1, hkb1⟩ : ∃ x, reachK t1 q = x := ⟨_, rfl⟩
  obtain ⟨qq1, hqq1⟩ : ∃ x, reachQ t1 q = x := ⟨_, rfl⟩
  have HT1 := Kp.mk (And.intro hkb1 hqq1)
  rw [hkb1, hqq1] at r3
  rw [hqq1] at HQ1
  rw [HE.out.1, HE.out.2] at r3
  obtain ⟨f1, hf1⟩ : ∃ x, eF qq1 = x := ⟨_, rfl⟩
  obtain ⟨d1, hd1⟩ : ∃ x, eD qq1 = x := ⟨_, rfl⟩
  have HF1 := Kp.mk (And.intro hf1 hd1)
  rw [hf1, hd1] at r3
  clear hs1 hkb1 hqq1 hf1 hd1
  have r4 := Kp.mk (fun (u : World) (h : Below w.heap.size w u) => dReach_rk (HA2.out.2.1.can HCA.out.2) HQ.out.1 HQ.out.2 HA2.out.1 u h (HGW.out.below h))
  have hs2 := reach_is HCA.out.2 HA2.out.2.1 HA2.out.2.2 HQ.out.2
  have HQ2 := Kp.mk (And.intro (Int.le_trans HQ.out.1 hs2.1) hs2.2.1)
  obtain ⟨kb2, hkb2⟩ : ∃ x, reachK t2 q = x := ⟨_, rfl⟩
  obtain ⟨qq2, hqq2⟩ : ∃ x, reachQ t2 q = x := ⟨_, rfl⟩
  have HT2 := Kp.mk (And.intro hkb2 hqq2)
  rw [hkb2, hqq2] at r4
  rw [hqq2] at HQ2
  rw [HE.out.1, HE.out.2] at r4
  obtain ⟨f2, hf2⟩ : ∃ x, eF qq2 = x := ⟨_, rfl⟩
  obtain ⟨d2, hd2⟩ : ∃ x, eD qq2 = x := ⟨_, rfl⟩
  have HF2 := Kp.mk (And.intro hf2 hd2)
  rw [hf2, hd2] at r4
  clear hs2 hkb2 hqq2 hf2 hd2
  have rm := Kp.mk (fun u => dMin_rk HQ1.out.1 HQ1.out.2 HQ2.out.1 HQ2.out.2 u)
  rw [HF1.out.1, HF1.out.2, HF2.out.1, HF2.out.2] at rm
  obtain ⟨fm, hfm⟩ : ∃ x, eF (minI qq1 qq2) = x := ⟨_, rfl⟩
  obtain ⟨dm, hdm⟩ : ∃ x, eD (minI qq1 qq2) = x := ⟨_, rfl⟩
  have HFM := Kp.mk (And.intro hfm hdm)
  rw [hfm, hdm] at rm
  clear hfm hdm
  have rk := Kp.mk (HK.out kb1 kb2)
  obtain ⟨kv, hkv⟩ : ∃ x, kf kb1 kb2 = x := ⟨_, rfl⟩
  rw [hkv] at rk
  have HKV := Kp.mk hkv
  clear hkv r1 r2
  have k0 := H1.out.cell (j := 0) rfl
  have x0 := HX.out.cell (j := 0) rfl
  have x1 := HX.out.cell (j := 1) rfl
  go_wp2_with fail
  refine (r3.out _ H1.out.below).mono ?_
  rintro e y1 ⟨rfl, hb⟩
  clear k0 x0 x1
  have H1 := Kp.mk (H1.out.step hb)
  have H2 := Kp.mk (H2.out.step hb)
  have H3 := Kp.mk (H3.out.step hb)
  have HX := Kp.mk (HX.out.step hb)
  have HR := Kp.mk (HR.out.step hb)
  have HC := Kp.mk (HC.out.step hb)
  clear hb
  go_upto_region 3 with fail
  have hb := (Below.refl y1.heap.size y1).alloc (Nat.le_refl _) (.cells #[.int .i8 f1, .int .i64 d1] 24)
  have HGE1 : Kp (gx + 1 < y1.heap.size) := Kp.mk HR.out.lt
  have HY1 := Kp.mk (ob_new 24 #[.int .i8 f1, .int .i64 d1] H1.out.below)
  have H1 := Kp.mk (H1.out.step hb)
  have H2 := Kp.mk (H2.out.step hb)
  have H3 := Kp.mk (H3.out.step hb)
  have HX := Kp.mk (HX.out.step hb)
  have HR := Kp.mk (HR.out.step hb)
  have HC := Kp.mk (HC.out.step hb)
  clear hb r3
  generalize y1.alloc (.cells #[.int .i8 f1, .int .i64 d1] 24) = y1a at *
  generalize y1.heap.size = g1 at *
  have k0 := H2.out.cell (j := 0) rfl
  have x0 := HX.out.cell (j := 0) rfl
  have x1 := HX.out.cell (j := 1) rfl
  go_wp2_with fail
  refine (r4.out _ H1.out.below).mono ?_
  rintro e y2 ⟨rfl, hb⟩
  clear k0 x0 x1
  have H1 := Kp.mk (H1.out.step hb)
  have H2 := Kp.mk (H2.out.step hb)
  have H3 := Kp.mk (H3.out.step hb)
  have HX := Kp.mk (HX.out.step hb)
  have HR := Kp.mk (HR.out.step hb)
  have HC := Kp.mk (HC.out.step hb)
  have HY1 := Kp.mk (HY1.out.step hb)
  clear hb
  go_upto_region 4 with fail
  have hb := (Below.refl y2.heap.size y2).alloc (Nat.le_refl _) (.cells #[.int .i8 f2, .int .i64 d2] 24)
  have HGE2 : Kp (gx + 1 < y2.heap.size) := Kp.mk HR.out.lt
  have HY2 := Kp.mk (ob_new 24 #[.int .i8 f2, .int .i64 d2] H1.out.below)
  have H1 := Kp.mk (H1.out.step hb)
  have H2 := Kp.mk (H2.out.step hb)
  have H3 := Kp.mk (H3.out.step hb)
  have HX := Kp.mk (HX.out.step hb)
  have HR := Kp.mk (HR.out.step hb)
  have HC := Kp.mk (HC.out.step hb)
  have HY1 := Kp.mk (HY1.out.step hb)
  clear hb r4
  generalize y2.alloc (.cells #[.int .i8 f2, .int .i64 d2] 24) = y2a at *
  generalize y2.heap.size = g2 at *
  go_upto_region 4 with fail
  have hbl := (Below.refl y2a.heap.size y2a).drew
  have H1z := Kp.mk (H1.out.step hbl)
  have H2z := Kp.mk (H2.out.step hbl)
  have H3z := Kp.mk (H3.out.step hbl)
  have HXz := Kp.mk (HX.out.step hbl)
  have HRz := Kp.mk (HR.out.step hbl)
  have HCz := Kp.mk (HC.out.step hbl)
  have HY1z := Kp.mk (HY1.out.step hbl)
  have HY2z := Kp.mk (HY2.out.step hbl)
  obtain ⟨k0z, k1z, k2z, k3z, k4z⟩ := (And.intro H3z.out.cs1 (And.intro HY1z.out.cs2.1 (And.intro HY1z.out.cs2.2 HY2z.out.cs2)))
  clear hbl
  refine wp_region_held_drew (S := fun w' => w'.cell? ⟨k + 1 + 1, 0, none⟩ = some (.func (.func fk) #[] #[]) ∧ w'.cell? ⟨g1, 0, none⟩ = some (.int .i8 f1) ∧ w'.cell? ⟨g1, 1, none⟩ = some (.int .i64 d1) ∧ w'.cell? ⟨g2, 0, none⟩ = some (.int .i8 f2) ∧ w'.cell? ⟨g2, 1, none⟩ = some (.int .i64 d2)) (by kernel_rfl) ?_ (fun hHeld => ?_)
  ·with_reducible exact ⟨k0z, k1z, k2z, k3z, k4z⟩
  refine tk 0 ?_ rfl hHeld ?_ ?_
  rotate_left
  ·(intro w hSw; (try dsimp only at hSw); go_simp; try with_reducible rfl)
  try simp only [pt]
  refine tk 1 ?_ rfl hHeld ?_ ?_
  rotate_left
  ·(intro w hSw; (try dsimp only at hSw); go_simp; try with_reducible rfl)
  try simp only [pt]
  refine tk 2 ?_ rfl hHeld ?_ ?_
  rotate_left
  ·(intro w hSw; (try dsimp only at hSw); go_simp; try with_reducible rfl)
  try simp only [pt]
  refine tk 4 ?_ rfl hHeld ?_ ?_
  rotate_left
  ·(intro w hSw; (try dsimp only at hSw); go_simp; try with_reducible rfl)
  try simp only [pt]
  refine tk 5 ?_ rfl hHeld ?_ ?_
  rotate_left
  ·(intro w hSw; (try dsimp only at hSw); go_simp; try with_reducible rfl)
  try simp only [pt]
  refine rd [3] ?_
  refine AllReadyH.cons (dropAt rfl) (fun K hK => ?_) AllReadyH.nil
  go_simp
  go_at_fn fk
  with_reducible refine (rk.out _).mono ?_
  rintro e y1 ⟨rfl, hb⟩
  have H1_y1 := Kp.mk (H1z.out.step hb)
  have H2_y1 := Kp.mk (H2z.out.step hb)
  have H3_y1 := Kp.mk (H3z.out.step hb)
  have HX_y1 := Kp.mk (HXz.out.step hb)
  have HR_y1 := Kp.mk (HRz.out.step hb)
  have HC_y1 := Kp.mk (HCz.out.step hb)
  have HY1_y1 := Kp.mk (HY1z.out.step hb)
  have HY2_y1 := Kp.mk (HY2z.out.step hb)
  obtain ⟨k0_y1, k1_y1, k2_y1, k3_y1, k4_y1⟩ := (And.intro H3_y1.out.cs1 (And.intro HY1_y1.out.cs2.1 (And.intro HY1_y1.out.cs2.2 HY2_y1.out.cs2)))
  clear hHeld k0z k1z k2z k3z k4z H1z H2z H3z HXz HRz HCz HY1z HY2z hb
  go_wp2_with fail
  refine hK.out _ _ ?_ (fun hHeld => ?_)
  ·with_reducible exact ⟨k0_y1, k1_y1, k2_y1, k3_y1, k4_y1⟩
  clear hK K
  try simp only [pt]
  refine rd [6] ?_
  refine AllReadyH.cons (dropAt rfl) (fun K hK => ?_) AllReadyH.nil
  go_simp
  go_at_call 79
  with_reducible refine (rm.out _).mono ?_
  rintro e y2 ⟨rfl, hb⟩
  have H1_y2 := Kp.mk (H1_y1.out.step hb)
  have H2_y2 := Kp.mk (H2_y1.out.step hb)
  have H3_y2 := Kp.mk (H3_y1.out.step hb)
  have HX_y2 := Kp.mk (HX_y1.out.step hb)
  have HR_y2 := Kp.mk (HR_y1.out.step hb)
  have HC_y2 := Kp.mk (HC_y1.out.step hb)
  have HY1_y2 := Kp.mk (HY1_y1.out.step hb)
  have HY2_y2 := Kp.mk (HY2_y1.out.step hb)
  obtain ⟨k0_y2, k1_y2, k2_y2, k3_y2, k4_y2⟩ := (And.intro H3_y2.out.cs1 (And.intro HY1_y2.out.cs2.1 (And.intro HY1_y2.out.cs2.2 HY2_y2.out.cs2)))
  clear hHeld k0_y1 k1_y1 k2_y1 k3_y1 k4_y1 H1_y1 H2_y1 H3_y1 HX_y1 HR_y1 HC_y1 HY1_y1 HY2_y1 hb
  go_wp2_with fail
  refine hK.out _ _ ?_ (fun hHeld => ?_)
  ·with_reducible exact ⟨k0_y2, k1_y2, k2_y2, k3_y2, k4_y2⟩
  clear hK K
  try simp only [pt]
  refine tk 7 ?_ rfl hHeld ?_ ?_
  rotate_left
  ·(intro w hSw; (try dsimp only at hSw); go_simp; try with_reducible rfl)
  try simp only [pt]
  refine rd [8] ?_
  refine AllReadyH.cons (dropAt rfl) (fun K hK => ?_) AllReadyH.nil
  have z0 := HR_y2.out.cell (j := 0) rfl
  have z1 := HR_y2.out.cell (j := 1) rfl
  have e0 := HR_y2.out.frozen 0
  have e1 := HR_y2.out.frozen 1
  clear hHeld k0_y2 k1_y2 k2_y2 k3_y2 k4_y2
  go_simp
  have H1 := H1_y2
  have H2 := H2_y2
  have H3 := H3_y2
  have HX := HX_y2
  have HR := HR_y2
  have HC := HC_y2
  have HY1 := HY1_y2
  have HY2 := HY2_y2
  clear z0 z1 e0 e1
  have hbs := HR.out.base
  have n1 := HN.out
  have n2 := HX.out.lt
  have n3 := HGE1.out
  have n4 := HGE2.out
  have H1 := Kp.mk ((H1.out.otherO hbs (by omega) 0 (.int .i8 fm)).otherO hbs (by omega) 1 (.int .i64 dm))
  have H2 := Kp.mk ((H2.out.otherO hbs (by omega) 0 (.int .i8 fm)).otherO hbs (by omega) 1 (.int .i64 dm))
  have H3 := Kp.mk ((H3.out.otherO hbs (by omega) 0 (.int .i8 fm)).otherO hbs (by omega) 1 (.int .i64 dm))
  have HX := Kp.mk ((HX.out.otherO hbs (by omega) 0 (.int .i8 fm)).otherO hbs (by omega) 1 (.int .i64 dm))
  have HY1 := Kp.mk ((HY1.out.otherO hbs (by omega) 0 (.int .i8 fm)).otherO hbs (by omega) 1 (.int .i64 dm))
  have HY2 := Kp.mk ((HY2.out.otherO hbs (by omega) 0 (.int .i8 fm)).otherO hbs (by omega) 1 (.int .i64 dm))
  have HC := Kp.mk ((HC.out.own (j := gx + 1) (by rw [HGX.out]; omega) 0 (.int .i8 fm)).own (j := gx + 1) (by rw [HGX.out]; omega) 1 (.int .i64 dm))
  have HR := Kp.mk (HR.out.put2 (.int .i8 fm) (.int .i64 dm))
  clear hbs n1 n2 n3 n4
  generalize ((y2.setCell ⟨gx + 1, 0, none⟩ (.int .i8 fm)).setCell ⟨gx + 1, 1, none⟩ (.int .i64 dm)) = y3 at *
  obtain ⟨k0_y3, k1_y3, k2_y3, k3_y3, k4_y3⟩ := (And.intro H3.out.cs1 (And.intro HY1.out.cs2.1 (And.intro HY1.out.cs2.2 HY2.out.cs2)))
  refine hK.out _ _ ?_ (fun hHeld => ?_)
  ·with_reducible exact ⟨k0_y3, k1_y3, k2_y3, k3_y3, k4_y3⟩
  clear hK K
  try simp only [pt]
  refine wpAnyH_done (by kernel_rfl) ?_ _
  clear hHeld
  have H1 := H1
  have H2 := H2
  have H3 := H3
  have HX := HX
  have HR := HR
  have HC := HC
  have HY1 := HY1
  have HY2 := HY2
  clear k0_y3 k1_y3 k2_y3 k3_y3 k4_y3
  go_wp2_with fail
  refine bodyPost_ret (results_tmp_cell (p := 6) (ty := 24) rfl _ _ (gx + 1) 24 #[.int .i8 fm, .int .i64 dm] (0, 0) _ rfl HR.out.heap Tryz.underlying24 rfl infoEnd) rfl ?_
  refine ⟨⟨t1, t2, HA1.out.2.1, HA1.out.2.2, HA2.out.2.1, HA2.out.2.2, ?_⟩, ⟨⟨b1, t1, c1, H1.out, HA1.out.1, HA1.out.2.1⟩, ⟨b2, t2, c2, H2.out, HA2.out.1, HA2.out.2.1⟩, H3.out⟩, HC.out⟩
  rw [HT1.out.1, HT1.out.2, HT2.out.1, HT2.out.2, HFM.out.1, HFM.out.2, HKV.out]
  rfl
end Go.Proofs.YtndjcmclmhoigaaGreatDoor
