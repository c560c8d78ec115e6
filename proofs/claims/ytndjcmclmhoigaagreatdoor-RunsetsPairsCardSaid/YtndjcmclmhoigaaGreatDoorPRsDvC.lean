/-
 DERIVED. CONTRACTS of the library's IndexFunc, ContainsFunc, Equal over lists of runs, and of package runsets (the developers' functions): isInfinite, Has, Same, Count. Written by mkrsd3.py.
-/
import Derived.Test.YtndjcmclmhoigaaGreatDoorPRsDvA
import Derived.Test.YtndjcmclmhoigaaGreatDoorPB1
import Derived.Shelf.Abstract
import Derived.Laws.StructEq
namespace Go.Proofs.YtndjcmclmhoigaaGreatDoor
open Go.RowKit
set_option maxRecDepth 100000

variable {w W W' : World} {a b : Option Addr} {l m : List Rn}
/-- where a test holds first: -1, or the place -/
def IdxZ (p : Rn → Bool) (l : List Rn) (z : Int) : Prop := (z = -1 ∧ ∀ r, r ∈ l → p r = false) ∨ ∃ (k : Nat) (r : Rn), z = (k : Int) ∧ l[k]? = some r ∧ p r = true ∧ ∀ (j : Nat) (s : Rn), j < k → l[j]? = some s → p s = false
/-- a function value that tests runs -/
structure Pred (w : World) (l : List Rn) (p : Rn → Bool) (K : Nat) (cb : Array Value) : Prop where
 eg : ∀ args w, (callFunc K args).run Tryz.prog w = .ok (.enter K args) w
 call : ∀ r, r ∈ l → ∀ u, Below w.heap.size w u → Calls Tryz.prog K (#[.agg #[.int .i8 r.f, .int .i64 r.d, .int .i8 r.g, .int .i64 r.e]] ++ cb) u fun e w' => e = .returned (.bool (p r)) ∧ Below u.heap.size u w'
set_option maxHeartbeats 4000000 in
theorem idx_is {p : Rn → Bool} {K : Nat} {cb : Array Value} {c : Nat} (hp : Pred w l p K cb) (hn : l.length ≤ maxLen) (hl : Lr w a l w) :
 Calls Tryz.prog 146 #[.slice a l.length c, .func (.func K) #[] cb] w fun x w' => (∃ z, IdxZ p l z ∧ x = .returned (.int .i64 z)) ∧ Below w.heap.size w w' := by
 have HL := Kp.mk hl
 have HP := Kp.mk hp
 have eg := hp.eg
 have hn2 : l.length ≤ 9223372036854775807 := by unfold maxLen at hn; omega
 clear hl hp hn
 obtain ⟨n, hnn⟩ : ∃ n, l.length = n := ⟨_, rfl⟩
 rw [hnn] at hn2 ⊢
 go_enter Tryz.func146, Tryz.ntmps146
 go_wp2_with fail
 go_loopw [8] (fun i wr => ∃ q : Nat, q ≤ n ∧ i = .int .i64 (q : Int) ∧ Kp (∀ (j : Nat) (s : Rn), j < q → l[j]? = some s → p s = false) ∧ Kp (Lr w a l wr)) (fun i _ => n - (intOf i).toNat)
 case atStart => exact ⟨0, by omega, rfl, ⟨fun _ _ h => by omega⟩, HL⟩
 case round =>
  clear HL
  obtain ⟨q, hq, rfl, HF, HL⟩ := hrel
  by_cases h1 : q < n
  ·have t1 : decide ((q : Int) < (n : Int)) = true := decide_eq_true (by omega)
   have b1 : (q : Int) < (n : Int) := by omega
   have wq : IntKind.i64.wrap ((q : Int) + 1) = (q : Int) + 1 := IntWalk.i64_in _ (by omega)
   obtain ⟨r, hr⟩ : ∃ r, l[q]? = some r := ⟨l[q]'(by omega), List.getElem?_eq_getElem (by omega)⟩
   obtain ⟨g, s, rfl⟩ := HL.out.place hr
   have rc := Kp.mk (HP.out.call r (List.mem_of_getElem? hr))
   obtain ⟨k0, k1, k2, k3⟩ := HL.out.cells hr
   have HR := Kp.mk hr
   cases hb : p r with
   | true =>
    rw [hb] at rc
    have HQ := Kp.mk hb
    clear hr hb
    go_wp2_with (go_at_fn K; refine (rc.out _ HL.out.below).mono ?_; rintro e v1 ⟨rfl, hbl⟩; have HL := Kp.mk (HL.out.step hbl); clear hbl)
    go_ret
    exact ⟨⟨q, .inr ⟨q, r, rfl, HR.out, HQ.out, HF.out⟩, rfl⟩, HL.out.below⟩
   | false =>
    rw [hb] at rc
    have HF : Kp (∀ (j : Nat) (s : Rn), j < q + 1 → l[j]? = some s → p s = false) := Kp.mk (fun j s hj hs => by
     by_cases e : j < q
     ·exact HF.out j s e hs
     ·obtain rfl : j = q := by omega
      rw [hr] at hs
      injection hs with hs
      exact hs ▸ hb)
    clear hr hb
    go_wp2_with (go_at_fn K; refine (rc.out _ HL.out.below).mono ?_; rintro e v1 ⟨rfl, hbl⟩; have HL := Kp.mk (HL.out.step hbl); clear hbl k0 k1 k2 k3)
    go_roundw
    case rel => exact ⟨q + 1, by omega, by go_num, HF, HL⟩
    case measure => simp [intOf]; omega
  ·obtain rfl : q = n := by omega
   go_wp2_with fail
   go_ret
   refine ⟨⟨-1, .inl ⟨rfl, fun r hr => ?_⟩, rfl⟩, HL.out.below⟩
   obtain ⟨j, hj, e⟩ := List.getElem_of_mem hr
   exact HF.out j r (by omega) (by rw [List.getElem?_eq_getElem hj, e])
theorem idx_any {p : Rn → Bool} {z : Int} (h : IdxZ p l z) : decide (0 ≤ z) = l.any p := by
 rcases h with ⟨rfl, h⟩ | ⟨k, r, rfl, h1, h2, _⟩
 ·have : l.any p = false := by rw [List.any_eq_false]; intro x hx; rw [h x hx]; decide
  rw [this]; rfl
 ·have : l.any p = true := List.any_eq_true.2 ⟨r, List.mem_of_getElem? h1, h2⟩
  rw [this, decide_eq_true_iff]; omega
set_option maxHeartbeats 4000000 in
theorem contains_is {p : Rn → Bool} {K : Nat} {cb : Array Value} {c : Nat} {v : Bool} (hp : Pred w l p K cb) (hn : l.length ≤ maxLen) (hl : Lr w a l w) (hv : l.any p = v) :
 Calls Tryz.prog 110 #[.slice a l.length c, .func (.func K) #[] cb] w fun x w' => x = .returned (.bool v) ∧ Below w.heap.size w w' := by
 have r1 := Kp.mk (idx_is (c := c) hp hn hl)
 have HV := Kp.mk hv
 clear hp hn hl hv
 generalize l.length = n at *
 go_enter Tryz.func110, Tryz.ntmps110
 go_wp2_with fail
 refine r1.out.mono ?_
 rintro e v1 ⟨⟨z, hz, rfl⟩, hb⟩
 have HB := Kp.mk hb
 have HZ := Kp.mk ((idx_any hz).trans HV.out)
 clear hb hz r1
 cases v with
 | true =>
  have t : 0 ≤ z := of_decide_eq_true HZ.out
  go_wp2_with fail
  go_ret
  exact ⟨rfl, HB.out⟩
 | false =>
  have t : decide (0 ≤ z) = false := HZ.out
  have t2 : z < 0 := by have := of_decide_eq_false HZ.out; omega
  go_wp2_with fail
  go_ret
  exact ⟨rfl, HB.out⟩
set_option maxHeartbeats 4000000 in
theorem dInfR_is {r : Rn} {v : Bool} (hv : decide (¬ (r.f = 0 ∧ r.g = 0)) = v) (w : World) :
 Calls Tryz.prog 123 #[.agg #[.int .i8 r.f, .int .i64 r.d, .int .i8 r.g, .int .i64 r.e]] w fun x w' => x = .returned (.bool v) ∧ Below w.heap.size w w' := by
 have HA := Kp.mk (rg_new r 26 (Below.refl w.heap.size w))
 have HB := Kp.mk (bl_of HA.out)
 by_cases h1 : r.f = 0
 ·have t1 : (r.f != 0) = false := by rw [bne_eq_false_iff_eq]; exact h1
  by_cases h2 : r.g = 0
  ·have t2 : (r.g != 0) = false := by rw [bne_eq_false_iff_eq]; exact h2
   obtain rfl : false = v := by rw [← hv]; symm; rw [decide_eq_false_iff_not]; omega
   clear hv h1 h2
   go_enter Tryz.func123, Tryz.ntmps123
   go_upto_region 1 with fail
   generalize (w.alloc (.cells #[.int .i8 r.f, .int .i64 r.d, .int .i8 r.g, .int .i64 r.e] 26)) = w0 at *
   have kHA0 := HA.out.c0
   have kHA1 := HA.out.c1
   have kHA2 := HA.out.c2
   have kHA3 := HA.out.c3
   go_wp2_with fail
   go_ret
   exact ⟨rfl, HB.out.below⟩
  ·have t2 : (r.g != 0) = true := by rw [bne_iff_ne]; exact h2
   obtain rfl : true = v := by rw [← hv]; symm; rw [decide_eq_true_iff]; omega
   clear hv h1 h2
   go_enter Tryz.func123, Tryz.ntmps123
   go_upto_region 1 with fail
   generalize (w.alloc (.cells #[.int .i8 r.f, .int .i64 r.d, .int .i8 r.g, .int .i64 r.e] 26)) = w0 at *
   have kHA0 := HA.out.c0
   have kHA1 := HA.out.c1
   have kHA2 := HA.out.c2
   have kHA3 := HA.out.c3
   go_wp2_with fail
   go_ret
   exact ⟨rfl, HB.out.below⟩
 ·have t1 : (r.f != 0) = true := by rw [bne_iff_ne]; exact h1
  obtain rfl : true = v := by rw [← hv]; symm; rw [decide_eq_true_iff]; omega
  clear hv h1
  go_enter Tryz.func123, Tryz.ntmps123
  go_upto_region 1 with fail
  generalize (w.alloc (.cells #[.int .i8 r.f, .int .i64 r.d, .int .i8 r.g, .int .i64 r.e] 26)) = w0 at *
  have kHA0 := HA.out.c0
  have kHA1 := HA.out.c1
  have kHA2 := HA.out.c2
  have kHA3 := HA.out.c3
  go_wp2_with fail
  go_ret
  exact ⟨rfl, HB.out.below⟩
set_option maxHeartbeats 4000000 in
theorem dHas1_is {r : Rn} {d : Int} {v : Bool} {g : Nat} (hr : r.In) (d0 : -9223372036854775808 ≤ d) (d1 : d ≤ 9223372036854775807) (hv : hasN r d = v) (w : World) (hg : g < w.heap.size) (hc : w.cell? ⟨g, 0, none⟩ = some (.int .i64 d)) (hL : LaidEn w) :
 Calls Tryz.prog 111 #[.agg #[.int .i8 r.f, .int .i64 r.d, .int .i8 r.g, .int .i64 r.e], .pointer (some ⟨g, 0, none⟩)] w fun x w' => x = .returned (.bool v) ∧ Below w.heap.size w w' := by
 have HA := Kp.mk (rg_new r 26 (Below.refl w.heap.size w))
 have HB := Kp.mk (bl_of HA.out)
 have r1 : Kp (∀ u, Below w.heap.size w u → Calls Tryz.prog 28 #[.agg #[.int .i8 r.f, .int .i64 r.d, .int .i8 r.g, .int .i64 r.e], .int .i64 d] u fun e w' => e = .returned (.bool v) ∧ Below u.heap.size u w') := Kp.mk (fun u hw => dHas_is hr d0 d1 hv u (hL.below hw))
 have kd : ∀ o, (w.alloc o).cell? ⟨g, 0, none⟩ = some (.int .i64 d) := fun o => by rw [((Below.refl w.heap.size w).alloc (Nat.le_refl _) o).cell (p := ⟨g, 0, none⟩) hg]; exact hc
 have kd := kd (.cells #[.int .i8 r.f, .int .i64 r.d, .int .i8 r.g, .int .i64 r.e] 26)
 clear hr d0 d1 hv hL hc hg
 go_enter Tryz.func111, Tryz.ntmps111
 go_upto_region 1 with fail
 generalize (w.alloc (.cells #[.int .i8 r.f, .int .i64 r.d, .int .i8 r.g, .int .i64 r.e] 26)) = w0 at *
 have kHA0 := HA.out.c0
 have kHA1 := HA.out.c1
 have kHA2 := HA.out.c2
 have kHA3 := HA.out.c3
 go_wp2_with fail
 refine (r1.out _ HB.out.below).mono ?_
 rintro e u1 ⟨rfl, hbl⟩
 clear kHA0 kHA1 kHA2 kHA3
 have HB := Kp.mk (HB.out.step hbl)
 have HA := Kp.mk (HA.out.step hbl)
 clear hbl
 have kHA0 := HA.out.c0
 have kHA1 := HA.out.c1
 have kHA2 := HA.out.c2
 have kHA3 := HA.out.c3
 go_wp2_with fail
 go_ret
 exact ⟨rfl, HB.out.below⟩
set_option maxHeartbeats 4000000 in
theorem dHasS_is {d : Int} {v : Bool} {p : Nat} (hin : ∀ r, r ∈ l → r.In) (d0 : -9223372036854775808 ≤ d) (d1 : d ≤ 9223372036854775807) (hv : hasRs l d = v) (hn : l.length ≤ maxLen) (hl : Lr w a l w) (hL : LaidEn w) :
 Calls Tryz.prog 49 #[.slice a l.length p, .int .i64 d] w fun x w' => x = .returned (.bool v) ∧ Below w.heap.size w w' := by
 have hb := (Below.refl w.heap.size w).alloc (Nat.le_refl _) (.cells #[.int .i64 d] 2)
 have HB := Kp.mk hb
 have hx := (ob_new (w := w) 2 #[.int .i64 d] (Below.refl w.heap.size w))
 have eg : ∀ args w, (callFunc 111 args).run Tryz.prog w = .ok (.enter 111 args) w := enters_of Tryz.func111 (by kernel_rfl) rfl
 have r1 := Kp.mk (contains_is (p := fun r => hasN r d) (K := 111) (cb := #[.pointer (some ⟨w.heap.size, 0, none⟩)]) (c := p) ⟨eg, fun r hr u hu => dHas1_is (hin r hr) d0 d1 rfl u (hx.step hu).lt ((hx.step hu).cell rfl) (hL.below (hb.trans (hu.mono hb.size)))⟩ hn (hl.step hb).now hv)
 clear hin d0 d1 hv hn hl hL hb hx eg
 generalize l.length = n at *
 go_enter Tryz.func49, Tryz.ntmps49
 go_wp2_with fail
 refine r1.out.mono ?_
 rintro e v1 ⟨rfl, hb⟩
 have HB := Kp.mk (HB.out.trans (hb.mono HB.out.size))
 clear hb r1
 go_wp2_with fail
 go_ret
 exact ⟨rfl, HB.out⟩
set_option maxHeartbeats 4000000 in
theorem eqS_len {p q n k : Nat} (h : ¬ n = k) (w : World) :
 Calls Tryz.prog 122 #[.slice a n p, .slice b k q] w fun x w' => x = .returned (.bool false) ∧ Below w.heap.size w w' := by
 have HB := Kp.mk (Bl.mk (Below.refl w.heap.size w))
 have n1 : ¬ (n : Int) = (k : Int) := by omega
 have t0 : ((n : Int) != (k : Int)) = true := by rw [bne_iff_ne]; exact n1
 go_enter Tryz.func122, Tryz.ntmps122
 go_wp2_with fail
 go_ret
 exact ⟨rfl, HB.out.below⟩
set_option maxHeartbeats 4000000 in
theorem eqS_is {p q : Nat} {c : Bool} (he : l.length = m.length) (hn : l.length ≤ maxLen) (hc : decide (l = m) = c) (al : Lr w a l w) (am : Lr w b m w) :
 Calls Tryz.prog 122 #[.slice a l.length p, .slice b m.length q] w fun x w' => x = .returned (.bool c) ∧ Below w.heap.size w w' := by
 have HL := Kp.mk al
 have HM := Kp.mk am
 have hn2 : l.length ≤ 9223372036854775807 := by unfold maxLen at hn; omega
 obtain ⟨n, hnn⟩ : ∃ n, l.length = n := ⟨_, rfl⟩
 have hmm : m.length = n := by omega
 clear al am hn he
 rw [hnn] at hn2
 rw [hnn, hmm]
 go_enter Tryz.func122, Tryz.ntmps122
 go_wp2_with fail
 go_loopw [13] (fun i wr => ∃ p : Nat, p ≤ n ∧ i = .int .i64 (p : Int) ∧ decide (l.drop p = m.drop p) = c ∧ Kp (Lr w a l wr) ∧ Kp (Lr w b m wr)) (fun i _ => n - (intOf i).toNat)
 case atStart => exact ⟨0, by omega, rfl, hc, HL, HM⟩
 case round =>
  obtain ⟨p, hp, rfl, hq, HL, HM⟩ := hrel
  by_cases h1 : p < n
  ·have t1 : decide ((p : Int) < (n : Int)) = true := decide_eq_true (by omega)
   have b1 : (p : Int) < (n : Int) := by omega
   obtain ⟨r, hr⟩ : ∃ r, l[p]? = some r := ⟨l[p]'(by omega), List.getElem?_eq_getElem (by omega)⟩
   obtain ⟨x, hx⟩ : ∃ x, m[p]? = some x := ⟨m[p]'(by omega), List.getElem?_eq_getElem (by omega)⟩
   obtain ⟨g, s, rfl⟩ := HL.out.place hr
   obtain ⟨g2, s2, rfl⟩ := HM.out.place hx
   rw [drop_at hr, drop_at hx] at hq
   have wp1 : IntKind.i64.wrap ((p : Int) + 1) = (p : Int) + 1 := IntWalk.i64_in _ (by omega)
   by_cases h2 : r = x
   ·subst h2
    have hq : decide (l.drop (p + 1) = m.drop (p + 1)) = c := by rw [← hq, decide_eq_decide, List.cons.injEq]; exact ⟨fun h => ⟨rfl, h⟩, fun h => h.2⟩
    go_upto_region 6 with fail
    have hbl := (Below.refl wr.heap.size wr).drew
    have HLz := Kp.mk (HL.out.step hbl)
    have HMz := Kp.mk (HM.out.step hbl)
    obtain ⟨k0z, k1z, k2z, k3z⟩ := HLz.out.cells hr
    obtain ⟨k4z, k5z, k6z, k7z⟩ := HMz.out.cells hx
    clear hbl
    refine wp_region_held_drew (S := fun w' => w'.cell? ⟨g, s + p * 4, none⟩ = some (.int .i8 r.f) ∧ w'.cell? ⟨g, s + p * 4 + 1, none⟩ = some (.int .i64 r.d) ∧ w'.cell? ⟨g, s + p * 4 + 2, none⟩ = some (.int .i8 r.g) ∧ w'.cell? ⟨g, s + p * 4 + 3, none⟩ = some (.int .i64 r.e) ∧ w'.cell? ⟨g2, s2 + p * 4, none⟩ = some (.int .i8 r.f) ∧ w'.cell? ⟨g2, s2 + p * 4 + 1, none⟩ = some (.int .i64 r.d) ∧ w'.cell? ⟨g2, s2 + p * 4 + 2, none⟩ = some (.int .i8 r.g) ∧ w'.cell? ⟨g2, s2 + p * 4 + 3, none⟩ = some (.int .i64 r.e)) (by kernel_rfl) ?_ (fun hHeld => ?_)
    ·with_reducible exact ⟨k0z, k1z, k2z, k3z, k4z, k5z, k6z, k7z⟩
    refine tk 0 ?_ rfl hHeld ?_ ?_
    rotate_left
    ·(intro w hSw; (try dsimp only at hSw); go_simp; try with_reducible rfl)
    try simp only [pt]
    refine tk 1 ?_ rfl hHeld ?_ ?_
    rotate_left
    ·(intro w hSw; (try dsimp only at hSw); go_simp; try with_reducible rfl)
    try simp only [pt]
    refine tk 2 ?_ rfl hHeld ?_ ?_
    rotate_left
    ·(intro w hSw; (try dsimp only at hSw); go_simp; try with_reducible rfl)
    try simp only [pt]
    refine tk 3 ?_ rfl hHeld ?_ ?_
    rotate_left
    ·(intro w hSw; (try dsimp only at hSw); go_simp; try with_reducible rfl)
    try simp only [pt]
    refine tk 4 ?_ rfl hHeld ?_ ?_
    rotate_left
    ·(intro w hSw; (try dsimp only at hSw); go_simp; try with_reducible rfl)
    try simp only [pt]
    refine tk 5 ?_ rfl hHeld ?_ ?_
    rotate_left
    ·(intro w hSw; (try dsimp only at hSw); go_simp; try with_reducible rfl)
    try simp only [pt]
    refine tk 6 ?_ rfl hHeld ?_ ?_
    rotate_left
    ·(intro w hSw; (try dsimp only at hSw); go_simp; try with_reducible rfl)
    try simp only [pt]
    refine tk 7 ?_ rfl hHeld ?_ ?_
    rotate_left
    ·(intro w hSw; (try dsimp only at hSw); go_simp; try with_reducible rfl)
    try simp only [pt]
    refine tk 8 ?_ rfl hHeld ?_ ?_
    rotate_left
    ·(intro w hSw; (try dsimp only at hSw); go_simp; try with_reducible rfl)
    try simp only [pt]
    refine wpAnyH_done (by kernel_rfl) ?_ _
    clear hHeld
    have HL := HLz
    have HM := HMz
    clear k0z k1z k2z k3z k4z k5z k6z k7z
    go_wp2_with fail
    go_roundw
    case rel => exact ⟨p + 1, by omega, by go_num, hq, HL, HM⟩
    case measure => simp [intOf]; omega
   ·obtain rfl : false = c := by rw [← hq]; exact (decide_eq_false (fun h => h2 (by injection h))).symm
    by_cases f1 : r.f = x.f
    ·by_cases f2 : r.d = x.d
     ·by_cases f3 : r.g = x.g
      ·have f4 : ¬ r.e = x.e := fun h4 => h2 (by cases r; cases x; simp at f1 f2 f3 h4; subst f1 f2 f3 h4; rfl)
       clear h2
       go_upto_region 6 with fail
       have hbl := (Below.refl wr.heap.size wr).drew
       have HLz := Kp.mk (HL.out.step hbl)
       have HMz := Kp.mk (HM.out.step hbl)
       obtain ⟨k0z, k1z, k2z, k3z⟩ := HLz.out.cells hr
       obtain ⟨k4z, k5z, k6z, k7z⟩ := HMz.out.cells hx
       clear hbl
       refine wp_region_held_drew (S := fun w' => w'.cell? ⟨g, s + p * 4, none⟩ = some (.int .i8 r.f) ∧ w'.cell? ⟨g, s + p * 4 + 1, none⟩ = some (.int .i64 r.d) ∧ w'.cell? ⟨g, s + p * 4 + 2, none⟩ = some (.int .i8 r.g) ∧ w'.cell? ⟨g, s + p * 4 + 3, none⟩ = some (.int .i64 r.e) ∧ w'.cell? ⟨g2, s2 + p * 4, none⟩ = some (.int .i8 x.f) ∧ w'.cell? ⟨g2, s2 + p * 4 + 1, none⟩ = some (.int .i64 x.d) ∧ w'.cell? ⟨g2, s2 + p * 4 + 2, none⟩ = some (.int .i8 x.g) ∧ w'.cell? ⟨g2, s2 + p * 4 + 3, none⟩ = some (.int .i64 x.e)) (by kernel_rfl) ?_ (fun hHeld => ?_)
       ·with_reducible exact ⟨k0z, k1z, k2z, k3z, k4z, k5z, k6z, k7z⟩
       refine tk 0 ?_ rfl hHeld ?_ ?_
       rotate_left
       ·(intro w hSw; (try dsimp only at hSw); go_simp; try with_reducible rfl)
       try simp only [pt]
       refine tk 1 ?_ rfl hHeld ?_ ?_
       rotate_left
       ·(intro w hSw; (try dsimp only at hSw); go_simp; try with_reducible rfl)
       try simp only [pt]
       refine tk 2 ?_ rfl hHeld ?_ ?_
       rotate_left
       ·(intro w hSw; (try dsimp only at hSw); go_simp; try with_reducible rfl)
       try simp only [pt]
       refine tk 3 ?_ rfl hHeld ?_ ?_
       rotate_left
       ·(intro w hSw; (try dsimp only at hSw); go_simp; try with_reducible rfl)
       try simp only [pt]
       refine tk 4 ?_ rfl hHeld ?_ ?_
       rotate_left
       ·(intro w hSw; (try dsimp only at hSw); go_simp; try with_reducible rfl)
       try simp only [pt]
       refine tk 5 ?_ rfl hHeld ?_ ?_
       rotate_left
       ·(intro w hSw; (try dsimp only at hSw); go_simp; try with_reducible rfl)
       try simp only [pt]
       refine tk 6 ?_ rfl hHeld ?_ ?_
       rotate_left
       ·(intro w hSw; (try dsimp only at hSw); go_simp; try with_reducible rfl)
       try simp only [pt]
       refine tk 7 ?_ rfl hHeld ?_ ?_
       rotate_left
       ·(intro w hSw; (try dsimp only at hSw); go_simp; try with_reducible rfl)
       try simp only [pt]
       refine tk 8 ?_ rfl hHeld ?_ ?_
       rotate_left
       ·(intro w hSw; (try dsimp only at hSw); go_simp; try with_reducible rfl)
       try simp only [pt]
       refine wpAnyH_done (by kernel_rfl) ?_ _
       clear hHeld
       have HL := HLz
       have HM := HMz
       clear k0z k1z k2z k3z k4z k5z k6z k7z
       go_wp2_with fail
       go_ret
       exact ⟨rfl, HL.out.below⟩
      ·clear h2
       go_upto_region 6 with fail
       have hbl := (Below.refl wr.heap.size wr).drew
       have HLz := Kp.mk (HL.out.step hbl)
       have HMz := Kp.mk (HM.out.step hbl)
       obtain ⟨k0z, k1z, k2z, k3z⟩ := HLz.out.cells hr
       obtain ⟨k4z, k5z, k6z, k7z⟩ := HMz.out.cells hx
       clear hbl
       refine wp_region_held_drew (S := fun w' => w'.cell? ⟨g, s + p * 4, none⟩ = some (.int .i8 r.f) ∧ w'.cell? ⟨g, s + p * 4 + 1, none⟩ = some (.int .i64 r.d) ∧ w'.cell? ⟨g, s + p * 4 + 2, none⟩ = some (.int .i8 r.g) ∧ w'.cell? ⟨g, s + p * 4 + 3, none⟩ = some (.int .i64 r.e) ∧ w'.cell? ⟨g2, s2 + p * 4, none⟩ = some (.int .i8 x.f) ∧ w'.cell? ⟨g2, s2 + p * 4 + 1, none⟩ = some (.int .i64 x.d) ∧ w'.cell? ⟨g2, s2 + p * 4 + 2, none⟩ = some (.int .i8 x.g) ∧ w'.cell? ⟨g2, s2 + p * 4 + 3, none⟩ = some (.int .i64 x.e)) (by kernel_rfl) ?_ (fun hHeld => ?_)
       ·with_reducible exact ⟨k0z, k1z, k2z, k3z, k4z, k5z, k6z, k7z⟩
       refine tk 0 ?_ rfl hHeld ?_ ?_
       rotate_left
       ·(intro w hSw; (try dsimp only at hSw); go_simp; try with_reducible rfl)
       try simp only [pt]
       refine tk 1 ?_ rfl hHeld ?_ ?_
       rotate_left
       ·(intro w hSw; (try dsimp only at hSw); go_simp; try with_reducible rfl)
       try simp only [pt]
       refine tk 2 ?_ rfl hHeld ?_ ?_
       rotate_left
       ·(intro w hSw; (try dsimp only at hSw); go_simp; try with_reducible rfl)
       try simp only [pt]
       refine tk 3 ?_ rfl hHeld ?_ ?_
       rotate_left
       ·(intro w hSw; (try dsimp only at hSw); go_simp; try with_reducible rfl)
       try simp only [pt]
       refine tk 4 ?_ rfl hHeld ?_ ?_
       rotate_left
       ·(intro w hSw; (try dsimp only at hSw); go_simp; try with_reducible rfl)
       try simp only [pt]
       refine tk 5 ?_ rfl hHeld ?_ ?_
       rotate_left
       ·(intro w hSw; (try dsimp only at hSw); go_simp; try with_reducible rfl)
       try simp only [pt]
       refine tk 6 ?_ rfl hHeld ?_ ?_
       rotate_left
       ·(intro w hSw; (try dsimp only at hSw); go_simp; try with_reducible rfl)
       try simp only [pt]
       refine tk 7 ?_ rfl hHeld ?_ ?_
       rotate_left
       ·(intro w hSw; (try dsimp only at hSw); go_simp; try with_reducible rfl)
       try simp only [pt]
       refine tk 8 ?_ rfl hHeld ?_ ?_
       rotate_left
       ·(intro w hSw; (try dsimp only at hSw); go_simp; try with_reducible rfl)
       try simp only [pt]
       refine wpAnyH_done (by kernel_rfl) ?_ _
       clear hHeld
       have HL := HLz
       have HM := HMz
       clear k0z k1z k2z k3z k4z k5z k6z k7z
       go_wp2_with fail
       go_ret
       exact ⟨rfl, HL.out.below⟩
     ·clear h2
      go_upto_region 6 with fail
      have hbl := (Below.refl wr.heap.size wr).drew
      have HLz := Kp.mk (HL.out.step hbl)
      have HMz := Kp.mk (HM.out.step hbl)
      obtain ⟨k0z, k1z, k2z, k3z⟩ := HLz.out.cells hr
      obtain ⟨k4z, k5z, k6z, k7z⟩ := HMz.out.cells hx
      clear hbl
      refine wp_region_held_drew (S := fun w' => w'.cell? ⟨g, s + p * 4, none⟩ = some (.int .i8 r.f) ∧ w'.cell? ⟨g, s + p * 4 + 1, none⟩ = some (.int .i64 r.d) ∧ w'.cell? ⟨g, s + p * 4 + 2, none⟩ = some (.int .i8 r.g) ∧ w'.cell? ⟨g, s + p * 4 + 3, none⟩ = some (.int .i64 r.e) ∧ w'.cell? ⟨g2, s2 + p * 4, none⟩ = some (.int .i8 x.f) ∧ w'.cell? ⟨g2, s2 + p * 4 + 1, none⟩ = some (.int .i64 x.d) ∧ w'.cell? ⟨g2, s2 + p * 4 + 2, none⟩ = some (.int .i8 x.g) ∧ w'.cell? ⟨g2, s2 + p * 4 + 3, none⟩ = some (.int .i64 x.e)) (by kernel_rfl) ?_ (fun hHeld => ?_)
      ·with_reducible exact ⟨k0z, k1z, k2z, k3z, k4z, k5z, k6z, k7z⟩
      refine tk 0 ?_ rfl hHeld ?_ ?_
      rotate_left
      ·(intro w hSw; (try dsimp only at hSw); go_simp; try with_reducible rfl)
      try simp only [pt]
      refine tk 1 ?_ rfl hHeld ?_ ?_
      rotate_left
      ·(intro w hSw; (try dsimp only at hSw); go_simp; try with_reducible rfl)
      try simp only [pt]
      refine tk 2 ?_ rfl hHeld ?_ ?_
      rotate_left
      ·(intro w hSw; (try dsimp only at hSw); go_simp; try with_reducible rfl)
      try simp only [pt]
      refine tk 3 ?_ rfl hHeld ?_ ?_
      rotate_left
      ·(intro w hSw; (try dsimp only at hSw); go_simp; try with_reducible rfl)
      try simp only [pt]
      refine tk 4 ?_ rfl hHeld ?_ ?_
      rotate_left
      ·(intro w hSw; (try dsimp only at hSw); go_simp; try with_reducible rfl)
      try simp only [pt]
      refine tk 5 ?_ rfl hHeld ?_ ?_
      rotate_left
      ·(intro w hSw; (try dsimp only at hSw); go_simp; try with_reducible rfl)
      try simp only [pt]
      refine tk 6 ?_ rfl hHeld ?_ ?_
      rotate_left
      ·(intro w hSw; (try dsimp only at hSw); go_simp; try with_reducible rfl)
      try simp only [pt]
      refine tk 7 ?_ rfl hHeld ?_ ?_
      rotate_left
      ·(intro w hSw; (try dsimp only at hSw); go_simp; try with_reducible rfl)
      try simp only [pt]
      refine tk 8 ?_ rfl hHeld ?_ ?_
      rotate_left
      ·(intro w hSw; (try dsimp only at hSw); go_simp; try with_reducible rfl)
      try simp only [pt]
      refine wpAnyH_done (by kernel_rfl) ?_ _
      clear hHeld
      have HL := HLz
      have HM := HMz
      clear k0z k1z k2z k3z k4z k5z k6z k7z
      go_wp2_with fail
      go_ret
      exact ⟨rfl, HL.out.below⟩
    ·clear h2
     go_upto_region 6 with fail
     have hbl := (Below.refl wr.heap.size wr).drew
     have HLz := Kp.mk (HL.out.step hbl)
     have HMz := Kp.mk (HM.out.step hbl)
     obtain ⟨k0z, k1z, k2z, k3z⟩ := HLz.out.cells hr
     obtain ⟨k4z, k5z, k6z, k7z⟩ := HMz.out.cells hx
     clear hbl
     refine wp_region_held_drew (S := fun w' => w'.cell? ⟨g, s + p * 4, none⟩ = some (.int .i8 r.f) ∧ w'.cell? ⟨g, s + p * 4 + 1, none⟩ = some (.int .i64 r.d) ∧ w'.cell? ⟨g, s + p * 4 + 2, none⟩ = some (.int .i8 r.g) ∧ w'.cell? ⟨g, s + p * 4 + 3, none⟩ = some (.int .i64 r.e) ∧ w'.cell? ⟨g2, s2 + p * 4, none⟩ = some (.int .i8 x.f) ∧ w'.cell? ⟨g2, s2 + p * 4 + 1, none⟩ = some (.int .i64 x.d) ∧ w'.cell? ⟨g2, s2 + p * 4 + 2, none⟩ = some (.int .i8 x.g) ∧ w'.cell? ⟨g2, s2 + p * 4 + 3, none⟩ = some (.int .i64 x.e)) (by kernel_rfl) ?_ (fun hHeld => ?_)
     ·with_reducible exact ⟨k0z, k1z, k2z, k3z, k4z, k5z, k6z, k7z⟩
     refine tk 0 ?_ rfl hHeld ?_ ?_
     rotate_left
     ·(intro w hSw; (try dsimp only at hSw); go_simp; try with_reducible rfl)
     try simp only [pt]
     refine tk 1 ?_ rfl hHeld ?_ ?_
     rotate_left
     ·(intro w hSw; (try dsimp only at hSw); go_simp; try with_reducible rfl)
     try simp only [pt]
     refine tk 2 ?_ rfl hHeld ?_ ?_
     rotate_left
     ·(intro w hSw; (try dsimp only at hSw); go_simp; try with_reducible rfl)
     try simp only [pt]
     refine tk 3 ?_ rfl hHeld ?_ ?_
     rotate_left
     ·(intro w hSw; (try dsimp only at hSw); go_simp; try with_reducible rfl)
     try simp only [pt]
     refine tk 4 ?_ rfl hHeld ?_ ?_
     rotate_left
     ·(intro w hSw; (try dsimp only at hSw); go_simp; try with_reducible rfl)
     try simp only [pt]
     refine tk 5 ?_ rfl hHeld ?_ ?_
     rotate_left
     ·(intro w hSw; (try dsimp only at hSw); go_simp; try with_reducible rfl)
     try simp only [pt]
     refine tk 6 ?_ rfl hHeld ?_ ?_
     rotate_left
     ·(intro w hSw; (try dsimp only at hSw); go_simp; try with_reducible rfl)
     try simp only [pt]
     refine tk 7 ?_ rfl hHeld ?_ ?_
     rotate_left
     ·(intro w hSw; (try dsimp only at hSw); go_simp; try with_reducible rfl)
     try simp only [pt]
     refine tk 8 ?_ rfl hHeld ?_ ?_
     rotate_left
     ·(intro w hSw; (try dsimp only at hSw); go_simp; try with_reducible rfl)
     try simp only [pt]
     refine wpAnyH_done (by kernel_rfl) ?_ _
     clear hHeld
     have HL := HLz
     have HM := HMz
     clear k0z k1z k2z k3z k4z k5z k6z k7z
     go_wp2_with fail
     go_ret
     exact ⟨rfl, HL.out.below⟩
  ·obtain rfl : p = n := by omega
   rw [List.drop_of_length_le (by omega), List.drop_of_length_le (by omega)] at hq
   obtain rfl : true = c := by rw [← hq]; rfl
   go_wp2_with fail
   go_ret
   exact ⟨rfl, HL.out.below⟩
set_option maxHeartbeats 4000000 in
theorem dSameS_is {p q : Nat} {c : Bool} (hn : l.length ≤ maxLen) (hc : decide (l = m) = c) (al : Lr w a l w) (am : Lr w b m w) :
 Calls Tryz.prog 58 #[.slice a l.length p, .slice b m.length q] w fun x w' => x = .returned (.bool c) ∧ Below w.heap.size w w' := by
 have r1 : Kp (Calls Tryz.prog 122 #[.slice a l.length p, .slice b m.length q] w fun x w' => x = .returned (.bool c) ∧ Below w.heap.size w w') := Kp.mk (by
  by_cases h : l.length = m.length
  ·exact eqS_is h hn hc al am
  ·have e : c = false := by rw [← hc, decide_eq_false_iff_not]; exact fun x => h (by rw [x])
   rw [e]
   exact eqS_len h w)
 clear hn hc al am
 generalize l.length = n at *
 generalize m.length = k at *
 go_enter Tryz.func58, Tryz.ntmps58
 go_wp2_with fail
 refine r1.out.mono ?_
 rintro e v1 ⟨rfl, hb⟩
 have HB := Kp.mk hb
 clear hb r1
 go_wp2_with fail
 go_ret
 exact ⟨rfl, HB.out⟩
end Go.Proofs.YtndjcmclmhoigaaGreatDoor
