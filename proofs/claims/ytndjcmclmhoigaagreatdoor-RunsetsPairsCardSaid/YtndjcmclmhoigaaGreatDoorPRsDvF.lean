/-
 DERIVED. CONTRACTS of package runsets (the developers' functions): the sweep over two sets. Written by mkrsd6.py.
-/
import Derived.Test.YtndjcmclmhoigaaGreatDoorPRsDvD
import Derived.Test.YtndjcmclmhoigaaGreatDoorPC2
import Derived.Test.YtndjcmclmhoigaaGreatDoorPB8
import Derived.Deep.LoopGhost
namespace Go.Proofs.YtndjcmclmhoigaaGreatDoor
open Go.RowKit
set_option maxRecDepth 100000

variable {w W W' u : World} {a b : Option Addr} {l m la lb ta tb ls : List Rn} {k fk : Nat} {q : Int} {v : Value}
/-- what a stretch is -/
structure Strm (kf : Bool → Bool → Bool) (la lb : List Rn) (q mn : Int) (kv : Bool) : Prop where
 lo : q ≤ mn
 hi : mn ≤ 9223372036854775808
 all : ∀ x, q ≤ x → x ≤ mn → kf (hasE la x) (hasE lb x) = kv
 less : mn < 9223372036854775808 → Phi (mn + 1) la + Phi (mn + 1) lb < Phi q la + Phi q lb
theorem strm {kf : Bool → Bool → Bool} (ca : RsCan la) (cb : RsCan lb) (ha : Rest la ta q) (hb : Head ta q) (hc : Rest lb tb q) (hd : Head tb q) (q1 : q ≤ 9223372036854775808) :
 Strm kf la lb q (minI (reachQ ta q) (reachQ tb q)) (kf (reachK ta q) (reachK tb q)) := by
 obtain ⟨a1, a2, a3, a4⟩ := reach_is ca ha hb q1
 obtain ⟨b1, b2, b3, b4⟩ := reach_is cb hc hd q1
 have hm : (reachQ ta q ≤ reachQ tb q ∧ minI (reachQ ta q) (reachQ tb q) = reachQ ta q) ∨ (reachQ tb q < reachQ ta q ∧ minI (reachQ ta q) (reachQ tb q) = reachQ tb q) := by
  unfold minI
  by_cases h : reachQ ta q ≤ reachQ tb q
  ·rw [if_pos h]; omega
  ·rw [if_neg h]; omega
 refine ⟨by omega, by omega, fun x h1 h2 => by rw [a3 x h1 (by omega), b3 x h1 (by omega)], fun h => ?_⟩
 have pa := Phi_le (q := q) (q' := minI (reachQ ta q) (reachQ tb q) + 1) (by omega) la
 have pb := Phi_le (q := q) (q' := minI (reachQ ta q) (reachQ tb q) + 1) (by omega) lb
 rcases hm with ⟨_, e⟩ | ⟨_, e⟩
 ·rw [e] at h pa pb ⊢
  have := a4 h
  omega
 ·rw [e] at h pa pb ⊢
  have := b4 h
  omega
theorem Ob.grown {i n sz : Nat} {t e : TypeId} {cs : Array Value} {tmp : Obj} {xs : List Value} {base : Nat} (h : Ob w i t cs W) (ht : t ≠ e) (ho : W.ownsRow base e sz v n xs) (hg : (W.alloc tmp).grownBy W' v.ownBlock) (hb : Below w.heap.size w W') : Ob w i t cs W' := by
 refine ⟨hb, h.base, ?_⟩
 have hne : some i ≠ v.ownBlock := by
  rcases ho.2 with ⟨rfl, _⟩ | ⟨g, cap, cur, rfl, _, hgb, _⟩
  ·simp [Value.ownBlock]
  ·intro e'
   obtain rfl : i = g := by simpa [Value.ownBlock] using e'
   have := h.heap.symm.trans hgb
   simp at this
   exact ht this.2
 rw [hg.block i (by rw [World.size_alloc]; have := h.lt; omega) hne, Below.heap_alloc W tmp i h.lt]
 exact h.heap
theorem heap_cellsN {i g : Nat} (hn : i ≠ g) : ∀ (vs : List Value) (o : Nat) (W : World), (W.setCells g o vs).heap[i]? = W.heap[i]?
 | [], _, _ => rfl
 | v :: r, o, W => (heap_cellsN hn r (o + 1) _).trans (heap_setCell_other W (⟨g, o, none⟩ : Addr) i v hn)
theorem Ob.cellsN {i g o : Nat} {t : TypeId} {cs : Array Value} (h : Ob w i t cs W) (hn : i ≠ g) (hg : w.heap.size ≤ g) (vs : List Value) : Ob w i t cs (W.setCells g o vs) :=
 ⟨h.below.trans (below_cellsN hg vs o W), h.base, by rw [heap_cellsN hn vs o W]; exact h.heap⟩
theorem Ob.row {i g : Nat} {t : TypeId} {cs : Array Value} (h : Ob w i t cs W) (hn : ¬ i = g) (hg : w.heap.size ≤ g) (vs : Array Value) : Ob w i t cs (W.setRow g vs) :=
 ⟨below_setRow h.below hg _, h.base, by rw [setRow_other W g i vs hn]; exact h.heap⟩
theorem Ob.fill {i : Nat} {t : TypeId} {cs : Array Value} (h : Ob w i t cs W) (vs : Array Value) : Ob w i t vs (W.setRow i vs) :=
 ⟨below_setRow h.below h.base _, h.base, setRow_heap _ _ _ _ _ _ h.heap⟩
/-- a list's own row is no block of another kind -/
theorem Ag.ne {i : Nat} {t : TypeId} {cs : Array Value} (h : Ag w l v W) (ho : Ob w i t cs W) (ht : t ≠ 26) : some i ≠ v.ownBlock := by
 rcases h.own.2 with ⟨rfl, _⟩ | ⟨g, cap, cur, rfl, _, hgb, _⟩
 ·simp [Value.ownBlock]
 ·intro e'
  obtain rfl : i = g := by simpa [Value.ownBlock] using e'
  have := ho.heap.symm.trans hgb
  simp at this
  exact ht this.2
theorem Ag.chg {c1 c2 : Array Value} (h : Ag w l v W) (hc : Chg k W W') (h1 : Ob w k 60 c1 W) (h2 : Ob w (k + 1) 60 c2 W) : Ag w l v W' := by
 have n1 := h.ne h1 (by decide)
 have n2 := h.ne h2 (by decide)
 refine ⟨hc.below h.below h1.base, h.own.1, ?_⟩
 rcases h.own.2 with e | ⟨g, cap, cur, rfl, hb, hh, hr⟩
 ·exact .inl e
 ·have hg := (Array.getElem?_eq_some_iff.1 hh).1
  refine .inr ⟨g, cap, cur, rfl, hb, ?_, hr⟩
  rw [hc.block g hg (by rintro rfl; exact n1 rfl) (by rintro rfl; exact n2 rfl)]
  exact hh
theorem Ag.setR' {i : Nat} {t : TypeId} {cs : Array Value} (h : Ag w l v W) (ho : Ob w i t cs W) (ht : t ≠ 26) (vs : Array Value) : Ag w l v (W.setRow i vs) := by
 have n1 := h.ne ho ht
 refine ⟨below_setRow h.below ho.base _, h.own.1, ?_⟩
 rcases h.own.2 with e | ⟨g, cap, cur, rfl, hb, hh, hr⟩
 ·exact .inl e
 ·refine .inr ⟨g, cap, cur, rfl, hb, ?_, hr⟩
  rw [setRow_other W i g vs (by rintro rfl; exact n1 rfl)]
  exact hh
theorem vL_setHi : ∀ {l : List Rn} {q : Nat} {r : Rn} {x y : Int}, l[q]? = some r → ((vL l).set (q * 4 + 2) (.int .i8 x)).set (q * 4 + 3) (.int .i64 y) = vL (l.set q ⟨r.f, r.d, x, y⟩)
 | [], q, r, x, y, h => by simp at h
 | s :: t, 0, r, x, y, h => by
  simp at h
  subst h
  rfl
 | s :: t, q + 1, r, x, y, h => by
  have ih := vL_setHi (l := t) (q := q) (r := r) (x := x) (y := y) (by simpa using h)
  show ((cellsR s ++ vL t).set ((q + 1) * 4 + 2) (.int .i8 x)).set ((q + 1) * 4 + 3) (.int .i64 y) = cellsR s ++ vL (t.set q ⟨r.f, r.d, x, y⟩)
  rw [show (q + 1) * 4 + 2 = q * 4 + 2 + 4 by omega, show (q + 1) * 4 + 3 = q * 4 + 3 + 4 by omega, set_on, set_on, ih]
/-- the last end of a run of a list, stored anew -/
theorem Ag.hi {g q cap n : Nat} {r : Rn} {x y : Int} (h : Ag u l (.slice (some ⟨g, 0, none⟩) n cap) W) (hr : l[q]? = some r) :
 Ag u (l.set q ⟨r.f, r.d, x, y⟩) (.slice (some ⟨g, 0, none⟩) n cap) (W.setCells g (q * 4 + 2) [.int .i8 x, .int .i64 y]) := by
 have hq := (List.getElem?_eq_some_iff.1 hr).1
 obtain ⟨h1, ⟨e, _⟩ | ⟨g2, cap2, cur, e, hb, hh, hc, hm, hs, ht⟩⟩ := h.own
 ·cases e
 ·injection e with e1 en e3
  injection e1 with e1
  injection e1 with e1
  subst e1 e3 en
  refine ⟨h.below.trans (below_cellsN hb _ _ _), ?_, .inr ⟨g, cap, _, by rw [List.length_set], hb, heap_setCell_same _ g _ _ _ _ (heap_setCell_same W g _ _ _ _ hh), by rw [List.length_set]; exact hc, hm, by simp [hs], ?_⟩⟩
  ·rw [vL_len]
  ·rw [List.length_set]
   simp only [Array.toList_setIfInBounds, List.take_set, ht]
   exact vL_setHi hr
theorem Ag.hiThere {g q cap n : Nat} (h : Ag u l (.slice (some ⟨g, 0, none⟩) n cap) W) (hq : q < l.length) : W.there g (q * 4 + 2) 2 := fun j hj => by
 have := h.here (i := q) (k := 1) (by omega) (2 + j) (by omega)
 rw [Nat.add_assoc]
 exact this
theorem clean_not (l : List Rn) : (l.filter fun r => !decide (¬ chkR r = 0)) = cleanN l := by
 unfold cleanN
 congr 1
 funext r
 by_cases h : chkR r = 0
 ·rw [decide_eq_true h, decide_eq_false (fun g => g h)]; rfl
 ·rw [decide_eq_false h, decide_eq_true h]; rfl
/-- what the sweep hands back -/
def SwRes (w : World) (S : Int → Prop) (x : Ending) (w' : World) : Prop :=
 (∃ b m c, x = .returned (.slice b m.length c) ∧ IsRs m S ∧ m.length ≤ 16400 ∧ m.length ≤ c ∧ c ≤ maxLen ∧ Lr w b m w') ∧ Below w.heap.size w w'
theorem strm_phi {kf : Bool → Bool → Bool} {mn : Int} {kv : Bool} {n : Nat} (h : n + Phi q la + Phi q lb ≤ 16384) (hs : Strm kf la lb q mn kv) : n + Phi (mn + 1) la + Phi (mn + 1) lb ≤ 16384 ∧ (mn < 9223372036854775808 → n + 1 + Phi (mn + 1) la + Phi (mn + 1) lb ≤ 16384) := by
 have h1 := hs.lo
 have pa := Phi_le (q := q) (q' := mn + 1) (by omega) la
 have pb := Phi_le (q := q) (q' := mn + 1) (by omega) lb
 refine ⟨by omega, fun h2 => ?_⟩
 have := hs.less h2
 omega
theorem sw_in {K : Int → Bool} {bf : Bool} (h : Sw K q bf ls) (r : Rn) (hr : r ∈ ls) : r.In := by
 obtain ⟨p, s, rfl, _⟩ := h.sp r hr
 exact spR_in p s
theorem dBehind_is' {mn fm dm : Int} (q0 : -9223372036854775809 ≤ mn) (q1 : mn < 9223372036854775808) (h1 : eF mn = fm) (h2 : eD mn = dm) (u : World) (hL : LaidRs u) :
 Calls Tryz.prog 150 #[.agg #[.int .i8 fm, .int .i64 dm]] u fun x w' => x = .returned (.agg #[.int .i8 (eF (mn + 1)), .int .i64 (eD (mn + 1))]) ∧ Below u.heap.size u w' := by
 rw [← h1, ← h2]
 exact dBehind_rk q0 q1 u hL
theorem Bxs.row {g : Nat} (h : Bxs w k la lb q fk W) (hn : k + 1 + 1 < g) (hg : w.heap.size ≤ g) (vs : Array Value) : Bxs w k la lb q fk (W.setRow g vs) := by
 obtain ⟨⟨b1, t1, c1, h1, h2⟩, ⟨b2, t2, c2, h3, h4⟩, h5⟩ := h
 exact ⟨⟨b1, t1, c1, h1.row (by omega) hg vs, h2⟩, ⟨b2, t2, c2, h3.row (by omega) hg vs, h4⟩, h5.row (by omega) hg vs⟩
theorem Bxs.cellsN {g o : Nat} (h : Bxs w k la lb q fk W) (hG : Ag w l v W) (hv : v.ownBlock = some g) (hg : w.heap.size ≤ g) (vs : List Value) : Bxs w k la lb q fk (W.setCells g o vs) := by
 obtain ⟨⟨b1, t1, c1, h1, h2⟩, ⟨b2, t2, c2, h3, h4⟩, h5⟩ := h
 have n1 := hG.ne h1 (by decide)
 have n2 := hG.ne h3 (by decide)
 have n3 := hG.ne h5 (by decide)
 rw [hv] at n1 n2 n3
 exact ⟨⟨b1, t1, c1, h1.cellsN (fun e => n1 (by rw [e])) hg vs, h2⟩, ⟨b2, t2, c2, h3.cellsN (fun e => n2 (by rw [e])) hg vs, h4⟩, h5.cellsN (fun e => n3 (by rw [e])) hg vs⟩
theorem Bxs.grown {tmp : Obj} (h : Bxs w k la lb q fk W) (hG : Ag w l v W) (hg : (W.alloc tmp).grownBy W' v.ownBlock) (hb : Below w.heap.size w W') : Bxs w k la lb q fk W' := by
 obtain ⟨⟨b1, t1, c1, h1, h2⟩, ⟨b2, t2, c2, h3, h4⟩, h5⟩ := h
 exact ⟨⟨b1, t1, c1, h1.grown (by decide) hG.own hg hb, h2⟩, ⟨b2, t2, c2, h3.grown (by decide) hG.own hg hb, h4⟩, h5.grown (by decide) hG.own hg hb⟩
theorem ag_block' {g n c : Nat} (h : Ag w l (.slice (some ⟨g, 0, none⟩) n c) W) : w.heap.size ≤ g := by
 obtain ⟨_, ⟨e, _⟩ | ⟨g2, cap2, cur, e, hb, _⟩⟩ := h.own
 ·cases e
 ·injection e with e1 _ _
  injection e1 with e1
  injection e1 with e1
  rw [e1]; exact hb
set_option maxHeartbeats 16000000 in
theorem dSweep_is {pa pb : Nat} {kf : Bool → Bool → Bool} (eg : ∀ args w, (callFunc fk args).run Tryz.prog w = .ok (.enter fk args) w) (hk : ∀ (x y : Bool) (u : World), Calls Tryz.prog fk #[.bool x, .bool y] u fun e w' => e = .returned (.bool (kf x y)) ∧ Below u.heap.size u w')
 (hA : Arc w a la pa) (hB : Arc w b lb pb) (ca : RsCan la) (cb : RsCan lb) (na : la.length ≤ 4096) (nb : lb.length ≤ 4096) (hG : LaidRs w) :
 Calls Tryz.prog 117 #[.slice a la.length pa, .slice b lb.length pb, .func (.func fk) #[] #[]] w (SwRes w (SK fun x => kf (hasE la x) (hasE lb x))) := by
 obtain ⟨x1, x2, x3⟩ := ob_three w #[.slice a la.length pa] #[.slice b lb.length pb] #[.func (.func fk) #[] #[]] 60 60 143
 have HBx : Kp (Bxs w w.heap.size la lb (-9223372036854775809) fk (((w.alloc (.cells #[.slice a la.length pa] 60)).alloc (.cells #[.slice b lb.length pb] 60)).alloc (.cells #[.func (.func fk) #[] #[]] 143))) := Kp.mk ⟨⟨a, la, pa, x1, hA, Rest.start _ _⟩, ⟨b, lb, pb, x2, hB, Rest.start _ _⟩, x3⟩
 have HGW := Kp.mk hG
 have HK := Kp.mk hk
 have HCA := Kp.mk (And.intro ca cb)
 have HPh : Kp (([] : List Rn).length + Phi (-9223372036854775809) la + Phi (-9223372036854775809) lb ≤ 16384) := Kp.mk (by
  have h1 := Phi_top (-9223372036854775809) la
  have h2 := Phi_top (-9223372036854775809) lb
  show 0 + _ + _ ≤ _
  omega)
 have egd : ∀ args w, (callFunc 152 args).run Tryz.prog w = .ok (.enter 152 args) w := enters_of Tryz.func152 (by kernel_rfl) rfl
 have HEG := Kp.mk egd
 have HEG2 := Kp.mk eg
 obtain ⟨K, hKd⟩ : ∃ K : Int → Bool, (fun x => kf (hasE la x) (hasE lb x)) = K := ⟨_, rfl⟩
 rw [hKd]
 have HKD := Kp.mk hKd
 have HS0 : Kp (Sw K (-9223372036854775809) false []) := Kp.mk sw_start
 clear x1 x2 x3 hG hk ca cb na nb hA hB egd eg hKd
 generalize la.length = n1 at *
 generalize lb.length = n2 at *
 go_enter Tryz.func117, Tryz.ntmps117
 go_upto_region 3 with fail
 generalize ((w.alloc (.cells #[.slice a n1 pa] 60)).alloc (.cells #[.slice b n2 pb] 60)).alloc (.cells #[.func (.func fk) #[] #[]] 143) = u0 at *
 obtain ⟨k, hkk⟩ : ∃ k, w.heap.size = k := ⟨_, rfl⟩
 have HKK := Kp.mk hkk
 rw [hkk] at HBx ⊢
 clear hkk
 have q0 := (HGW.out.below HBx.out.here).f0
 have q1 := (HGW.out.below HBx.out.here).f1
 go_upto_region 4 with fail
 clear q0 q1
 have hb := (Below.refl u0.heap.size u0).alloc (Nat.le_refl _) (.cells #[.int .i8 (-1), .int .i64 0] 24)
 have HFr := Kp.mk (ob_new 24 #[.int .i8 (-1), .int .i64 0] HBx.out.here)
 have HGF : Kp (k + 1 + 1 < u0.heap.size) := Kp.mk HBx.out.f.lt
 have HBx := Kp.mk (HBx.out.step hb)
 clear hb
 generalize u0.alloc (.cells #[.int .i8 (-1), .int .i64 0] 24) = u1 at *
 generalize u0.heap.size = gf at *
 have HAg : Kp (Ag w [] (.slice none 0 0) u1) := Kp.mk ⟨HFr.out.below, World.ownsRow_nil _ _ _ _⟩
 have HE0 : Kp (eF (-9223372036854775809) = -1 ∧ eD (-9223372036854775809) = 0) := Kp.mk (by have := e_cases (-9223372036854775809); omega)
 go_loopg [8, 10] 18446744073709551617 (fun g vl vb wr => ∃ (ls : List Rn) (v : Value) (q ef ed : Int) (bf : Bool), v = vl ∧ vb = .bool bf ∧ Kp ((9223372036854775808 - q).toNat ≤ g) ∧ Kp (-9223372036854775809 ≤ q ∧ q ≤ 9223372036854775808) ∧ Kp (eF q = ef ∧ eD q = ed) ∧ Kp (Sw K q bf ls) ∧ Kp (ls.length + Phi q la + Phi q lb ≤ 16384) ∧ Kp (Ag w ls v wr) ∧ Kp (Bxs w k la lb q fk wr) ∧ Kp (Ob w gf 24 #[.int .i8 ef, .int .i64 ed] wr))
 case atStart => exact ⟨[], _, -9223372036854775809, -1, 0, false, rfl, rfl, Kp.mk (by omega), Kp.mk (by omega), HE0, HS0, HPh, HAg, HBx, HFr⟩
 case round =>
  clear HE0 HS0 HPh HAg HBx HFr
  obtain ⟨ls, v, q, ef, ed, bf, rfl, rfl, HM, HQ, HE, HS, HPh, HG, HBx, HFr⟩ := hrel
  have rs := dStretch_is HEG2.out HK.out HCA.out.1 HCA.out.2 HQ.out.1 HQ.out.2 HGW.out wr HBx.out
  rw [HE.out.1, HE.out.2] at rs
  have RS := Kp.mk rs
  clear rs
  have q0 := HFr.out.cs2.1
  have q1 := HFr.out.cs2.2
  go_wp2_with fail
  refine RS.out.mono ?_
  rintro e v1 ⟨⟨ta, tb, hra, hha, hrb, hhb, hx⟩, hbx, hch⟩
  have hst := strm (kf := kf) HCA.out.1 HCA.out.2 hra hha hrb hhb HQ.out.2
  generalize minI (reachQ ta q) (reachQ tb q) = mn at *
  generalize kf (reachK ta q) (reachK tb q) = kv at *
  obtain ⟨fm, hfm⟩ : ∃ x, eF mn = x := ⟨_, rfl⟩
  obtain ⟨dm, hdm⟩ : ∃ x, eD mn = x := ⟨_, rfl⟩
  rw [hfm, hdm] at hx
  subst hx
  have HFM := Kp.mk (And.intro hfm hdm)
  have HST := Kp.mk hst
  have hk1 : w.heap.size ≤ k := by rw [HKK.out]; exact Nat.le_refl _
  have hgf := HGF.out
  have HFr := Kp.mk (HFr.out.chg hch hk1 (by omega) (by omega))
  have HG := Kp.mk (by
   obtain ⟨⟨_, _, _, o1, _⟩, ⟨_, _, _, o2, _⟩, _⟩ := HBx.out
   exact HG.out.chg hch o1 o2)
  have HBx := Kp.mk hbx
  clear q0 q1 RS hra hha hrb hhb hfm hdm hst hch hbx hk1 hgf
  go_upto_region 5 with fail
  have hb := (Below.refl v1.heap.size v1).alloc (Nat.le_refl _) (.cells #[.int .i8 fm, .int .i64 dm] 24)
  have HTo := Kp.mk (ob_new 24 #[.int .i8 fm, .int .i64 dm] HBx.out.here)
  have HGT : Kp (gf < v1.heap.size) := Kp.mk HFr.out.lt
  have HFr := Kp.mk (HFr.out.step hb)
  have HG := Kp.mk (HG.out.step hb)
  have HBx := Kp.mk (HBx.out.step hb)
  clear hb
  generalize v1.alloc (.cells #[.int .i8 fm, .int .i64 dm] 24) = u2 at *
  generalize v1.heap.size = gt at *
  have HSm := Kp.mk (strm_phi HPh.out HST.out)
  cases kv with
  | true =>
   cases bf with
   | true =>
    obtain ⟨la0, pp, hl0, hp0, hp1⟩ := HS.out.flag
    subst hl0
    have HS : Kp (Sw K (mn + 1) true (la0 ++ [spR pp mn])) := Kp.mk (HS.out.grow hp0 hp1 HST.out.lo HST.out.hi (by rw [← HKD.out]; exact HST.out.all))
    obtain ⟨ad, cp, rfl, _, _⟩ := HG.out.row (Below.refl _ _)
    obtain ⟨g, rfl⟩ := HG.out.zero (by simp)
    obtain ⟨j, hj⟩ : ∃ j, la0.length = j := ⟨_, rfl⟩
    have hjl : (la0 ++ [spR pp (q - 1)]).length = j + 1 := by rw [List.length_append, hj]; rfl
    have hjm : (la0 ++ [spR pp mn]).length = j + 1 := by rw [List.length_append, hj]; rfl
    rw [hjl] at HG ⊢
    have hr : (la0 ++ [spR pp (q - 1)])[j]? = some (spR pp (q - 1)) := by rw [← hj]; simp
    have HR := Kp.mk hr
    have hjb : j + 1 ≤ 16384 := by have := HPh.out; rw [hjl] at this; omega
    have HSl : Kp ((la0 ++ [spR pp mn]).length ≤ 16400) := Kp.mk (by rw [hjm]; omega)
    have HSm : Kp ((la0 ++ [spR pp mn]).length + Phi (mn + 1) la + Phi (mn + 1) lb ≤ 16384) := Kp.mk (by have := HSm.out.1; rw [hjl] at this; rw [hjm]; exact this)
    have HGB : Kp (w.heap.size ≤ g) := Kp.mk (ag_block' HG.out)
    have hset : (la0 ++ [spR pp (q - 1)]).set j ⟨(spR pp (q - 1)).f, (spR pp (q - 1)).d, fm, dm⟩ = la0 ++ [spR pp mn] := by
     rw [← hj, List.set_append_right _ _ (Nat.le_refl _), Nat.sub_self]
     show la0 ++ [⟨(spR pp (q - 1)).f, (spR pp (q - 1)).d, fm, dm⟩] = _
     rw [← HFM.out.1, ← HFM.out.2]
     rfl
    have HSET := Kp.mk hset
    have HTH := Kp.mk (HG.out.hiThere (q := j) (by rw [hjl]; omega))
    have wj : IntKind.i64.wrap ((j : Int) + 1 - 1) = (j : Int) := by rw [IntWalk.i64_in _ (by omega)]; omega
    have wj2 : IntKind.i64.wrap (j : Int) = (j : Int) := IntWalk.i64_in _ (by omega)
    have wj3 : IntKind.i64.wrap (((j + 1 : Nat) : Int) - 1) = (j : Int) := by rw [IntWalk.i64_in _ (by omega)]; omega
    have dj : (j : Int) < ((j + 1 : Nat) : Int) := by omega
    have dj2 : (j : Int) < (j : Int) + 1 := by omega
    clear hp0 hp1 hj hjl hjm hr hset hjb
    by_cases h9 : mn = 9223372036854775808
    ·have hz := e_cases mn
     have hf1 : fm = 1 := by rw [← HFM.out.1]; omega
     have hd1 : dm = 0 := by rw [← HFM.out.2]; omega
     subst hf1 hd1
     have HS : Kp (Sw K 9223372036854775809 true (la0 ++ [spR pp mn])) := Kp.mk (by have h := HS.out; rw [show mn + 1 = 9223372036854775809 by omega] at h; exact h)
     clear h9 hz
     have HIs := Kp.mk HS.out.clean
     have HLn : Kp ((cleanN (la0 ++ [spR pp mn])).length ≤ 16400) := Kp.mk (Nat.le_trans (List.length_filter_le _ _) HSl.out)
     have c0 := HTo.out.cs2.1; have c1 := HTo.out.cs2.2; have p0 := (HGW.out.below HTo.out.below).l0; have p1 := (HGW.out.below HTo.out.below).l1
     go_wp2_with (first
      | (refine wpList_store_mid rfl 24 (.tmp 31) (.tmp 29) rfl g (j * 4 + 2) #[.int .i8 1, .int .i64 0] rfl rfl HTH.out infoEnd (two_one _ _) ?_; have HG1 : Kp (Ag w (la0 ++ [spR pp mn]) (.slice (some ⟨g, 0, none⟩) (j + 1) cp) (u2.setCells g (j * 4 + 2) [.int .i8 1, .int .i64 0])) := Kp.mk (by rw [← HSET.out]; exact HG.out.hi HR.out); have HBx := Kp.mk (HBx.out.cellsN (o := j * 4 + 2) HG.out rfl HGB.out [.int .i8 1, .int .i64 0]); have HFr := Kp.mk (HFr.out.cellsN (o := j * 4 + 2) (fun e => HG.out.ne HFr.out (by decide) (by rw [e]; rfl)) HGB.out [.int .i8 1, .int .i64 0]); have HTo := Kp.mk (HTo.out.cellsN (o := j * 4 + 2) (fun e => HG.out.ne HTo.out (by decide) (by rw [e]; rfl)) HGB.out [.int .i8 1, .int .i64 0]); have HG := HG1; clear HG1 wj wj2 wj3 dj dj2 HTH; clear c0 c1 p0 p1; generalize u2.setCells g (j * 4 + 2) [.int .i8 1, .int .i64 0] = u3 at *; have c0 := HTo.out.cs2.1; have c1 := HTo.out.cs2.2; have p0 := (HGW.out.below HTo.out.below).l0; have p1 := (HGW.out.below HTo.out.below).l1)
      | (go_at_call 151; have rd := dDel_is (p := fun r => decide (¬ chkR r = 0)) (fk := 152) (cb := #[]) ⟨HEG.out, fun r hr u hu => dBad_is (sw_in HS.out r hr) rfl u (HGW.out.en.below hu)⟩ (by have := HSl.out; omega) HG.out; rw [clean_not] at rd; refine rd.mono ?_; clear rd; rintro e y ⟨⟨b', c', rfl, h1, h2, h3⟩, h4⟩; have HZ := Kp.mk (And.intro h1 (And.intro h2 (And.intro h3 h4))); clear h1 h2 h3 h4; clear c0 c1 p0 p1))
     go_ret
     exact ⟨⟨b', _, c', rfl, HIs.out, HLn.out, HZ.out.1, HZ.out.2.1, HZ.out.2.2.1⟩, HZ.out.2.2.2⟩
    ·have hlt : mn < 9223372036854775808 := by have := HST.out.hi; omega
     have hge : -9223372036854775809 ≤ mn := by have := HST.out.lo; have := HQ.out.1; omega
     have hz := e_cases mn
     have hf1 : (fm == 1) = false := by rw [beq_eq_false_iff_ne, ← HFM.out.1]; omega
     have rb := dBehind_is' hge hlt HFM.out.1 HFM.out.2
     obtain ⟨fn, hfn⟩ : ∃ x, eF (mn + 1) = x := ⟨_, rfl⟩
     obtain ⟨dn, hdn⟩ : ∃ x, eD (mn + 1) = x := ⟨_, rfl⟩
     rw [hfn, hdn] at rb
     have HFN := Kp.mk (And.intro hfn hdn)
     have RB := Kp.mk rb
     have HQN : Kp (-9223372036854775809 ≤ mn + 1 ∧ mn + 1 ≤ 9223372036854775808) := Kp.mk (by omega)
     have HMN : Kp ((9223372036854775808 - (mn + 1)).toNat < gk) := Kp.mk (by have := HM.out; have := HST.out.lo; have := HQ.out.2; omega)
     have HPN : Kp ((la0 ++ [spR pp mn]).length + Phi (mn + 1) la + Phi (mn + 1) lb ≤ 16384) := Kp.mk (HSm.out)
     have hmore : q ≤ mn + 1 := by have := HST.out.lo; omega
     have HMO := Kp.mk hmore
     clear h9 hlt hge hz hfn hdn rb hmore
     have c0 := HTo.out.cs2.1; have c1 := HTo.out.cs2.2; have p0 := (HGW.out.below HTo.out.below).l0; have p1 := (HGW.out.below HTo.out.below).l1
     go_wp2_with (first
      | (refine wpList_store_mid rfl 24 (.tmp 31) (.tmp 29) rfl g (j * 4 + 2) #[.int .i8 fm, .int .i64 dm] rfl rfl HTH.out infoEnd (two_one _ _) ?_; have HG1 : Kp (Ag w (la0 ++ [spR pp mn]) (.slice (some ⟨g, 0, none⟩) (j + 1) cp) (u2.setCells g (j * 4 + 2) [.int .i8 fm, .int .i64 dm])) := Kp.mk (by rw [← HSET.out]; exact HG.out.hi HR.out); have HBx := Kp.mk (HBx.out.cellsN (o := j * 4 + 2) HG.out rfl HGB.out [.int .i8 fm, .int .i64 dm]); have HFr := Kp.mk (HFr.out.cellsN (o := j * 4 + 2) (fun e => HG.out.ne HFr.out (by decide) (by rw [e]; rfl)) HGB.out [.int .i8 fm, .int .i64 dm]); have HTo := Kp.mk (HTo.out.cellsN (o := j * 4 + 2) (fun e => HG.out.ne HTo.out (by decide) (by rw [e]; rfl)) HGB.out [.int .i8 fm, .int .i64 dm]); have HG := HG1; clear HG1 wj wj2 wj3 dj dj2 HTH; clear c0 c1 p0 p1; generalize u2.setCells g (j * 4 + 2) [.int .i8 fm, .int .i64 dm] = u3 at *; have c0 := HTo.out.cs2.1; have c1 := HTo.out.cs2.2; have p0 := (HGW.out.below HTo.out.below).l0; have p1 := (HGW.out.below HTo.out.below).l1)
      | (go_at_call 150; refine (RB.out _ (HGW.out.below HTo.out.below)).mono ?_; rintro e y ⟨rfl, hb⟩; have HG := Kp.mk (HG.out.step hb); have HB2 := Kp.mk ((HBx.out.more HMO.out).step hb); have HFr := Kp.mk (HFr.out.step hb); clear hb; clear c0 c1 p0 p1)
      | refine wpList_store_row' rfl 24 (.tmp 9) (.tmp 43) rfl gf #[.int .i8 fn, .int .i64 dn] rfl rfl 24 #[.int .i8 ef, .int .i64 ed] HFr.out.heap infoEnd rfl (two_one _ _) ?_)
     go_roundg ((9223372036854775808 - (mn + 1)).toNat)
     case measure => exact HMN.out
     case rel => exact ⟨la0 ++ [spR pp mn], _, mn + 1, fn, dn, true, rfl, rfl, Kp.mk (Nat.le_refl _), HQN, HFN, HS, HPN, Kp.mk (HG.out.setR' HFr.out (by decide) _), Kp.mk (HB2.out.row HGF.out HFr.out.base _), Kp.mk (HFr.out.fill _)⟩
   | false =>
    have HS : Kp (Sw K (mn + 1) true (ls ++ [spR q mn])) := Kp.mk (HS.out.add HQ.out.1 HST.out.lo HST.out.hi (by rw [← HKD.out]; exact HST.out.all))
    have hre : (⟨ef, ed, fm, dm⟩ : Rn) = spR q mn := by rw [← HE.out.1, ← HE.out.2, ← HFM.out.1, ← HFM.out.2]; rfl
    have HRE : Kp (ls ++ [(⟨ef, ed, fm, dm⟩ : Rn)] = ls ++ [spR q mn]) := Kp.mk (by rw [hre])
    have hlb : ls.length ≤ 16384 := by have := HPh.out; omega
    have HSl : Kp ((ls ++ [spR q mn]).length ≤ 16400) := Kp.mk (by rw [List.length_append]; show ls.length + 1 ≤ _; omega)
    obtain ⟨i0, hi0, hz0, hz1, hz2⟩ := infoRn4
    clear hre
    have y0 := HFr.out.cs2.1
    have y1 := HFr.out.cs2.2
    by_cases h9 : mn = 9223372036854775808
    ·have hz := e_cases mn
     have hf1 : fm = 1 := by rw [← HFM.out.1]; omega
     have hd1 : dm = 0 := by rw [← HFM.out.2]; omega
     subst hf1 hd1
     have HS : Kp (Sw K 9223372036854775809 true (ls ++ [spR q mn])) := Kp.mk (by have h := HS.out; rw [show mn + 1 = 9223372036854775809 by omega] at h; exact h)
     clear h9 hz
     have HIs := Kp.mk HS.out.clean
     have HLn : Kp ((cleanN (ls ++ [spR q mn])).length ≤ 16400) := Kp.mk (Nat.le_trans (List.length_filter_le _ _) HSl.out)
     have c0 := HTo.out.cs2.1; have c1 := HTo.out.cs2.2; have p0 := (HGW.out.below HTo.out.below).l0; have p1 := (HGW.out.below HTo.out.below).l1
     go_wp2_with (first
      | (at_builtin; refine wpList_append_own _ rfl (.tmp 33) (.tmp 37) 60 rfl w.heap.size 26 i0 (.agg #[.int .i8 0, .int .i64 0, .int .i8 0, .int .i64 0]) 4 32 Tryz.underlying60 hi0 hz0 hz1 hz2 rfl (by decide) v ls.length (vL ls) rfl (HG.out.own.alloc _) ⟨u2.heap.size, 0, none⟩ 1 1 [.int .i8 ef, .int .i64 ed, .int .i8 1, .int .i64 0] rfl rfl (four_row _ _ _ _ _ _) (by intro u hu; simp at hu; rcases hu with rfl | rfl | rfl | rfl <;> rfl) (by unfold maxLen; omega) (by omega) (by have := HG.out.below.size; simp; omega) ?_; intro vn wn hown hgrow _; have HG1 : Kp (Ag w (ls ++ [⟨ef, ed, 1, 0⟩]) vn wn) := Kp.mk (HG.out.add (r := ⟨ef, ed, 1, 0⟩) ((Below.refl u2.heap.size u2).alloc (Nat.le_refl _) (.cells #[.int .i8 ef, .int .i64 ed, .int .i8 1, .int .i64 0] 26)) hown hgrow); have HBx := Kp.mk (HBx.out.grown HG.out hgrow HG1.out.below); have HFr := Kp.mk (HFr.out.grown (by decide) HG.out.own hgrow HG1.out.below); have HTo := Kp.mk (HTo.out.grown (by decide) HG.out.own hgrow HG1.out.below); have HG : Kp (Ag w (ls ++ [spR q mn]) vn wn) := Kp.mk (HRE.out ▸ HG1.out); clear HG1 hown hgrow y0 y1; clear c0 c1 p0 p1; have c0 := HTo.out.cs2.1; have c1 := HTo.out.cs2.2; have p0 := (HGW.out.below HTo.out.below).l0; have p1 := (HGW.out.below HTo.out.below).l1)
      | (go_at_call 151; have rd := dDel_is (p := fun r => decide (¬ chkR r = 0)) (fk := 152) (cb := #[]) ⟨HEG.out, fun r hr u hu => dBad_is (sw_in HS.out r hr) rfl u (HGW.out.en.below hu)⟩ (by have := HSl.out; omega) HG.out; rw [clean_not] at rd; refine rd.mono ?_; clear rd; rintro e y ⟨⟨b', c', rfl, h1, h2, h3⟩, h4⟩; have HZ := Kp.mk (And.intro h1 (And.intro h2 (And.intro h3 h4))); clear h1 h2 h3 h4; clear c0 c1 p0 p1))
     go_ret
     exact ⟨⟨b', _, c', rfl, HIs.out, HLn.out, HZ.out.1, HZ.out.2.1, HZ.out.2.2.1⟩, HZ.out.2.2.2⟩
    ·have hlt : mn < 9223372036854775808 := by have := HST.out.hi; omega
     have hge : -9223372036854775809 ≤ mn := by have := HST.out.lo; have := HQ.out.1; omega
     have hz := e_cases mn
     have hf1 : (fm == 1) = false := by rw [beq_eq_false_iff_ne, ← HFM.out.1]; omega
     have rb := dBehind_is' hge hlt HFM.out.1 HFM.out.2
     obtain ⟨fn, hfn⟩ : ∃ x, eF (mn + 1) = x := ⟨_, rfl⟩
     obtain ⟨dn, hdn⟩ : ∃ x, eD (mn + 1) = x := ⟨_, rfl⟩
     rw [hfn, hdn] at rb
     have HFN := Kp.mk (And.intro hfn hdn)
     have RB := Kp.mk rb
     have HQN : Kp (-9223372036854775809 ≤ mn + 1 ∧ mn + 1 ≤ 9223372036854775808) := Kp.mk (by omega)
     have HMN : Kp ((9223372036854775808 - (mn + 1)).toNat < gk) := Kp.mk (by have := HM.out; have := HST.out.lo; have := HQ.out.2; omega)
     have HPN : Kp ((ls ++ [spR q mn]).length + Phi (mn + 1) la + Phi (mn + 1) lb ≤ 16384) := Kp.mk (by rw [List.length_append]; exact HSm.out.2 hlt)
     have hmore : q ≤ mn + 1 := by have := HST.out.lo; omega
     have HMO := Kp.mk hmore
     clear h9 hlt hge hz hfn hdn rb hmore
     have c0 := HTo.out.cs2.1; have c1 := HTo.out.cs2.2; have p0 := (HGW.out.below HTo.out.below).l0; have p1 := (HGW.out.below HTo.out.below).l1
     go_wp2_with (first
      | (at_builtin; refine wpList_append_own _ rfl (.tmp 33) (.tmp 37) 60 rfl w.heap.size 26 i0 (.agg #[.int .i8 0, .int .i64 0, .int .i8 0, .int .i64 0]) 4 32 Tryz.underlying60 hi0 hz0 hz1 hz2 rfl (by decide) v ls.length (vL ls) rfl (HG.out.own.alloc _) ⟨u2.heap.size, 0, none⟩ 1 1 [.int .i8 ef, .int .i64 ed, .int .i8 fm, .int .i64 dm] rfl rfl (four_row _ _ _ _ _ _) (by intro u hu; simp at hu; rcases hu with rfl | rfl | rfl | rfl <;> rfl) (by unfold maxLen; omega) (by omega) (by have := HG.out.below.size; simp; omega) ?_; intro vn wn hown hgrow _; have HG1 : Kp (Ag w (ls ++ [⟨ef, ed, fm, dm⟩]) vn wn) := Kp.mk (HG.out.add (r := ⟨ef, ed, fm, dm⟩) ((Below.refl u2.heap.size u2).alloc (Nat.le_refl _) (.cells #[.int .i8 ef, .int .i64 ed, .int .i8 fm, .int .i64 dm] 26)) hown hgrow); have HBx := Kp.mk (HBx.out.grown HG.out hgrow HG1.out.below); have HFr := Kp.mk (HFr.out.grown (by decide) HG.out.own hgrow HG1.out.below); have HTo := Kp.mk (HTo.out.grown (by decide) HG.out.own hgrow HG1.out.below); have HG : Kp (Ag w (ls ++ [spR q mn]) vn wn) := Kp.mk (HRE.out ▸ HG1.out); clear HG1 hown hgrow y0 y1; clear c0 c1 p0 p1; have c0 := HTo.out.cs2.1; have c1 := HTo.out.cs2.2; have p0 := (HGW.out.below HTo.out.below).l0; have p1 := (HGW.out.below HTo.out.below).l1)
      | (go_at_call 150; refine (RB.out _ (HGW.out.below HTo.out.below)).mono ?_; rintro e y ⟨rfl, hb⟩; have HG := Kp.mk (HG.out.step hb); have HB2 := Kp.mk ((HBx.out.more HMO.out).step hb); have HFr := Kp.mk (HFr.out.step hb); clear hb; clear c0 c1 p0 p1)
      | refine wpList_store_row' rfl 24 (.tmp 9) (.tmp 43) rfl gf #[.int .i8 fn, .int .i64 dn] rfl rfl 24 #[.int .i8 ef, .int .i64 ed] HFr.out.heap infoEnd rfl (two_one _ _) ?_)
     go_roundg ((9223372036854775808 - (mn + 1)).toNat)
     case measure => exact HMN.out
     case rel => exact ⟨ls ++ [spR q mn], _, mn + 1, fn, dn, true, rfl, rfl, Kp.mk (Nat.le_refl _), HQN, HFN, HS, HPN, Kp.mk (HG.out.setR' HFr.out (by decide) _), Kp.mk (HB2.out.row HGF.out HFr.out.base _), Kp.mk (HFr.out.fill _)⟩
  | false =>
   cases bf with
   | true =>
    have HS : Kp (Sw K (mn + 1) false ls) := Kp.mk (HS.out.skip HST.out.lo (by rw [← HKD.out]; exact HST.out.all) (by have := HQ.out.2; omega))
    have HSl : Kp (ls.length ≤ 16400) := Kp.mk (by have := HPh.out; omega)
    by_cases h9 : mn = 9223372036854775808
    ·have hz := e_cases mn
     have hf1 : fm = 1 := by rw [← HFM.out.1]; omega
     have hd1 : dm = 0 := by rw [← HFM.out.2]; omega
     subst hf1 hd1
     have HS : Kp (Sw K 9223372036854775809 false (ls)) := Kp.mk (by have h := HS.out; rw [show mn + 1 = 9223372036854775809 by omega] at h; exact h)
     clear h9 hz
     have HIs := Kp.mk HS.out.clean
     have HLn : Kp ((cleanN (ls)).length ≤ 16400) := Kp.mk (Nat.le_trans (List.length_filter_le _ _) HSl.out)
     have c0 := HTo.out.cs2.1; have c1 := HTo.out.cs2.2; have p0 := (HGW.out.below HTo.out.below).l0; have p1 := (HGW.out.below HTo.out.below).l1
     go_wp2_with (first
      | (go_at_call 151; have rd := dDel_is (p := fun r => decide (¬ chkR r = 0)) (fk := 152) (cb := #[]) ⟨HEG.out, fun r hr u hu => dBad_is (sw_in HS.out r hr) rfl u (HGW.out.en.below hu)⟩ (by have := HSl.out; omega) HG.out; rw [clean_not] at rd; refine rd.mono ?_; clear rd; rintro e y ⟨⟨b', c', rfl, h1, h2, h3⟩, h4⟩; have HZ := Kp.mk (And.intro h1 (And.intro h2 (And.intro h3 h4))); clear h1 h2 h3 h4; clear c0 c1 p0 p1))
     go_ret
     exact ⟨⟨b', _, c', rfl, HIs.out, HLn.out, HZ.out.1, HZ.out.2.1, HZ.out.2.2.1⟩, HZ.out.2.2.2⟩
    ·have hlt : mn < 9223372036854775808 := by have := HST.out.hi; omega
     have hge : -9223372036854775809 ≤ mn := by have := HST.out.lo; have := HQ.out.1; omega
     have hz := e_cases mn
     have hf1 : (fm == 1) = false := by rw [beq_eq_false_iff_ne, ← HFM.out.1]; omega
     have rb := dBehind_is' hge hlt HFM.out.1 HFM.out.2
     obtain ⟨fn, hfn⟩ : ∃ x, eF (mn + 1) = x := ⟨_, rfl⟩
     obtain ⟨dn, hdn⟩ : ∃ x, eD (mn + 1) = x := ⟨_, rfl⟩
     rw [hfn, hdn] at rb
     have HFN := Kp.mk (And.intro hfn hdn)
     have RB := Kp.mk rb
     have HQN : Kp (-9223372036854775809 ≤ mn + 1 ∧ mn + 1 ≤ 9223372036854775808) := Kp.mk (by omega)
     have HMN : Kp ((9223372036854775808 - (mn + 1)).toNat < gk) := Kp.mk (by have := HM.out; have := HST.out.lo; have := HQ.out.2; omega)
     have HPN : Kp ((ls).length + Phi (mn + 1) la + Phi (mn + 1) lb ≤ 16384) := Kp.mk (HSm.out.1)
     have hmore : q ≤ mn + 1 := by have := HST.out.lo; omega
     have HMO := Kp.mk hmore
     clear h9 hlt hge hz hfn hdn rb hmore
     have c0 := HTo.out.cs2.1; have c1 := HTo.out.cs2.2; have p0 := (HGW.out.below HTo.out.below).l0; have p1 := (HGW.out.below HTo.out.below).l1
     go_wp2_with (first
      | (go_at_call 150; refine (RB.out _ (HGW.out.below HTo.out.below)).mono ?_; rintro e y ⟨rfl, hb⟩; have HG := Kp.mk (HG.out.step hb); have HB2 := Kp.mk ((HBx.out.more HMO.out).step hb); have HFr := Kp.mk (HFr.out.step hb); clear hb; clear c0 c1 p0 p1)
      | refine wpList_store_row' rfl 24 (.tmp 9) (.tmp 43) rfl gf #[.int .i8 fn, .int .i64 dn] rfl rfl 24 #[.int .i8 ef, .int .i64 ed] HFr.out.heap infoEnd rfl (two_one _ _) ?_)
     go_roundg ((9223372036854775808 - (mn + 1)).toNat)
     case measure => exact HMN.out
     case rel => exact ⟨ls, _, mn + 1, fn, dn, false, rfl, rfl, Kp.mk (Nat.le_refl _), HQN, HFN, HS, HPN, Kp.mk (HG.out.setR' HFr.out (by decide) _), Kp.mk (HB2.out.row HGF.out HFr.out.base _), Kp.mk (HFr.out.fill _)⟩
   | false =>
    have HS : Kp (Sw K (mn + 1) false ls) := Kp.mk (HS.out.skip HST.out.lo (by rw [← HKD.out]; exact HST.out.all) (by have := HQ.out.2; omega))
    have HSl : Kp (ls.length ≤ 16400) := Kp.mk (by have := HPh.out; omega)
    by_cases h9 : mn = 9223372036854775808
    ·have hz := e_cases mn
     have hf1 : fm = 1 := by rw [← HFM.out.1]; omega
     have hd1 : dm = 0 := by rw [← HFM.out.2]; omega
     subst hf1 hd1
     have HS : Kp (Sw K 9223372036854775809 false (ls)) := Kp.mk (by have h := HS.out; rw [show mn + 1 = 9223372036854775809 by omega] at h; exact h)
     clear h9 hz
     have HIs := Kp.mk HS.out.clean
     have HLn : Kp ((cleanN (ls)).length ≤ 16400) := Kp.mk (Nat.le_trans (List.length_filter_le _ _) HSl.out)
     have c0 := HTo.out.cs2.1; have c1 := HTo.out.cs2.2; have p0 := (HGW.out.below HTo.out.below).l0; have p1 := (HGW.out.below HTo.out.below).l1
     go_wp2_with (first
      | (go_at_call 151; have rd := dDel_is (p := fun r => decide (¬ chkR r = 0)) (fk := 152) (cb := #[]) ⟨HEG.out, fun r hr u hu => dBad_is (sw_in HS.out r hr) rfl u (HGW.out.en.below hu)⟩ (by have := HSl.out; omega) HG.out; rw [clean_not] at rd; refine rd.mono ?_; clear rd; rintro e y ⟨⟨b', c', rfl, h1, h2, h3⟩, h4⟩; have HZ := Kp.mk (And.intro h1 (And.intro h2 (And.intro h3 h4))); clear h1 h2 h3 h4; clear c0 c1 p0 p1))
     go_ret
     exact ⟨⟨b', _, c', rfl, HIs.out, HLn.out, HZ.out.1, HZ.out.2.1, HZ.out.2.2.1⟩, HZ.out.2.2.2⟩
    ·have hlt : mn < 9223372036854775808 := by have := HST.out.hi; omega
     have hge : -9223372036854775809 ≤ mn := by have := HST.out.lo; have := HQ.out.1; omega
     have hz := e_cases mn
     have hf1 : (fm == 1) = false := by rw [beq_eq_false_iff_ne, ← HFM.out.1]; omega
     have rb := dBehind_is' hge hlt HFM.out.1 HFM.out.2
     obtain ⟨fn, hfn⟩ : ∃ x, eF (mn + 1) = x := ⟨_, rfl⟩
     obtain ⟨dn, hdn⟩ : ∃ x, eD (mn + 1) = x := ⟨_, rfl⟩
     rw [hfn, hdn] at rb
     have HFN := Kp.mk (And.intro hfn hdn)
     have RB := Kp.mk rb
     have HQN : Kp (-9223372036854775809 ≤ mn + 1 ∧ mn + 1 ≤ 9223372036854775808) := Kp.mk (by omega)
     have HMN : Kp ((9223372036854775808 - (mn + 1)).toNat < gk) := Kp.mk (by have := HM.out; have := HST.out.lo; have := HQ.out.2; omega)
     have HPN : Kp ((ls).length + Phi (mn + 1) la + Phi (mn + 1) lb ≤ 16384) := Kp.mk (HSm.out.1)
     have hmore : q ≤ mn + 1 := by have := HST.out.lo; omega
     have HMO := Kp.mk hmore
     clear h9 hlt hge hz hfn hdn rb hmore
     have c0 := HTo.out.cs2.1; have c1 := HTo.out.cs2.2; have p0 := (HGW.out.below HTo.out.below).l0; have p1 := (HGW.out.below HTo.out.below).l1
     go_wp2_with (first
      | (go_at_call 150; refine (RB.out _ (HGW.out.below HTo.out.below)).mono ?_; rintro e y ⟨rfl, hb⟩; have HG := Kp.mk (HG.out.step hb); have HB2 := Kp.mk ((HBx.out.more HMO.out).step hb); have HFr := Kp.mk (HFr.out.step hb); clear hb; clear c0 c1 p0 p1)
      | refine wpList_store_row' rfl 24 (.tmp 9) (.tmp 43) rfl gf #[.int .i8 fn, .int .i64 dn] rfl rfl 24 #[.int .i8 ef, .int .i64 ed] HFr.out.heap infoEnd rfl (two_one _ _) ?_)
     go_roundg ((9223372036854775808 - (mn + 1)).toNat)
     case measure => exact HMN.out
     case rel => exact ⟨ls, _, mn + 1, fn, dn, false, rfl, rfl, Kp.mk (Nat.le_refl _), HQN, HFN, HS, HPN, Kp.mk (HG.out.setR' HFr.out (by decide) _), Kp.mk (HB2.out.row HGF.out HFr.out.base _), Kp.mk (HFr.out.fill _)⟩
end Go.Proofs.YtndjcmclmhoigaaGreatDoor
