/-
 DERIVED. STREAMS AS LISTS OF RUNS: ascending ones, their maximal runs, runs that are shifted again and again. No program.
 DERIVED. CONTRACTS of package runsets (the developers' functions): join. Written by mkrsd12.py.
 DERIVED. CONTRACTS of package runsets (the developers' functions): Of. Written by mkrsd13.py.
 DERIVED. CONTRACTS of package runsets (the developers' functions): Text. Written by mkrsd14.py.
-/
import Derived.Test.YtndjcmclmhoigaaGreatDoorPA7
import Derived.Test.YtndjcmclmhoigaaGreatDoorPRsDvA
import Derived.Test.YtndjcmclmhoigaaGreatDoorPRnDvJ
import Derived.Test.YtndjcmclmhoigaaGreatDoorPC2
import Derived.Test.YtndjcmclmhoigaaGreatDoorPRsRefP
import Derived.Test.YtndjcmclmhoigaaGreatDoorPRsDvF
import Derived.Test.YtndjcmclmhoigaaGreatDoorPC6
import Derived.Test.YtndjcmclmhoigaaGreatDoorPB4
import Derived.Test.YtndjcmclmhoigaaGreatDoorPC5
import Derived.Test.YtndjcmclmhoigaaGreatDoorPB2
import Derived.Test.YtndjcmclmhoigaaGreatDoorPA6
import Derived.Test.YtndjcmclmhoigaaGreatDoorPShelf
import Derived.Laws.MakeOwn
import Derived.Laws.OwnMore
namespace Go.Proofs.YtndjcmclmhoigaaGreatDoor
set_option maxRecDepth 100000

/-- right runs that ascend -/
structure Asc (l : List Rn) : Prop where
 ok : ∀ r, r ∈ l → r.Ok
 up : l.Pairwise fun a b => cmpR a b ≤ 0
theorem cmpI_le {a b : Int} : cmpI a b ≤ 0 ↔ a ≤ b := by
 rcases cmpI_cases a b with h | h | h <;> omega
theorem cmpR_lo {a b : Rn} (ha : a.Ok) (hb : b.Ok) (h : cmpR a b ≤ 0) : a.lo ≤ b.lo := by
 unfold cmpR at h
 rw [cmp_lo ha hb] at h
 by_cases e : cmpI a.lo b.lo = 0
 ·rw [if_pos e] at h
  exact cmpI_le.1 (by omega)
 ·rw [if_neg e] at h
  exact cmpI_le.1 h
/-- the maximal runs from a run on -/
def joinF : Rn → List Rn → List Rn
 | c, [] => [c]
 | c, r :: t => if touchN c r = true then joinF (joinN c r) t else c :: joinF r t
def joinL : List Rn → List Rn
 | [] => []
 | r :: t => joinF r t
theorem joinF_non : ∀ (t : List Rn) (c : Rn), joinF c t ≠ []
 | [], _ => fun h => by cases h
 | r :: t, c => by
  unfold joinF
  split
  ·exact joinF_non t _
  ·exact fun h => by cases h
/-- one run more -/
theorem joinF_add : ∀ (t : List Rn) (c r s : Rn) (a : List Rn), joinF c t = a ++ [s] → joinF c (t ++ [r]) = (if touchN s r = true then a ++ [joinN s r] else a ++ [s] ++ [r])
 | [], c, r, s, a, h => by
  obtain ⟨rfl, rfl⟩ : a = [] ∧ c = s := by
   have h : [c] = a ++ [s] := h
   cases a with
   | nil => simpa using h
   | cons x t => simp at h
  show joinF c [r] = _
  unfold joinF
  split <;> rfl
 | x :: t, c, r, s, a, h => by
  show joinF c (x :: (t ++ [r])) = _
  unfold joinF at h ⊢
  by_cases ht : touchN c x = true
  ·rw [if_pos ht] at h ⊢
   exact joinF_add t _ r s a h
  ·rw [if_neg ht] at h ⊢
   cases a with
   | nil =>
    rw [List.nil_append] at h
    injection h with _ h
    exact absurd h (joinF_non t x)
   | cons y b =>
    rw [List.cons_append] at h
    injection h with h1 h2
    subst h1
    rw [joinF_add t x r s b h2]
    split <;> rfl
theorem joinL_add {l a : List Rn} {r s : Rn} (h : joinL l = a ++ [s]) : joinL (l ++ [r]) = (if touchN s r = true then a ++ [joinN s r] else a ++ [s] ++ [r]) := by
 cases l with
 | nil =>
  have h : ([] : List Rn) = a ++ [s] := h
  cases a <;> cases h
 | cons c t => exact joinF_add t c r s a h
theorem joinF_is : ∀ (t : List Rn) (c : Rn), c.Ok → (∀ r, r ∈ t → r.Ok) → (∀ r, r ∈ t → c.lo ≤ r.lo) → (t.Pairwise fun a b => a.lo ≤ b.lo) →
 RsCan (joinF c t) ∧ (∀ x, memR (joinF c t) x ↔ c.has x ∨ memR t x) ∧ ∀ r, r ∈ joinF c t → c.lo ≤ r.lo
 | [], c, hc, _, _, _ => ⟨rsc_one hc, fun x => memR_one.trans ⟨.inl, fun h => h.elim id (fun h => absurd h (memR_nil x))⟩, fun r hr => by rw [List.mem_singleton.1 hr]; exact Int.le_refl _⟩
 | r :: t, c, hc, ht, hl, hp => by
  have hr := ht r (by simp)
  have hlr := hl r (by simp)
  have ht' := fun q hq => ht q (List.mem_cons.2 (.inr hq))
  obtain ⟨p1, p2⟩ := List.pairwise_cons.1 hp
  unfold joinF
  by_cases h : touchN c r = true
  ·rw [if_pos h]
   obtain ⟨j1, j2, j3⟩ := join_ok hc hr
   have jl : (joinN c r).lo = c.lo := by rw [j2, if_neg (by omega)]
   obtain ⟨a1, a2, a3⟩ := joinF_is t (joinN c r) j1 ht' (fun q hq => by rw [jl]; exact hl q (List.mem_cons.2 (.inr hq))) p2
   exact ⟨a1, fun x => by rw [a2, has_joinP hc hr h, memR_cons, or_assoc], fun q hq => by rw [← jl]; exact a3 q hq⟩
  ·rw [if_neg h]
   obtain ⟨a1, a2, a3⟩ := joinF_is t r hr ht' p1 p2
   have hap : c.hi + 1 < r.lo := by
    rcases run_apart hc hr (by simpa using h) with e | e
    ·exact e
    ·have := hr.pos.le; omega
   refine ⟨rsc_cons.2 ⟨hc, fun b hb => by have := a3 b hb; omega, a1⟩, fun x => by rw [memR_cons, a2, memR_cons], fun q hq => ?_⟩
   rcases List.mem_cons.1 hq with rfl | hq
   ·exact Int.le_refl _
   ·have := a3 q hq; omega
theorem joinF_ok : ∀ (t : List Rn) (c : Rn), c.Ok → (∀ r, r ∈ t → r.Ok) → ∀ q, q ∈ joinF c t → q.Ok
 | [], c, hc, _, q, hq => by rw [List.mem_singleton.1 hq]; exact hc
 | r :: t, c, hc, ht, q, hq => by
  have hr := ht r (by simp)
  have ht' := fun q hq => ht q (List.mem_cons.2 (.inr hq))
  unfold joinF at hq
  by_cases h : touchN c r = true
  ·rw [if_pos h] at hq
   exact joinF_ok t _ (join_ok hc hr).1 ht' q hq
  ·rw [if_neg h] at hq
   rcases List.mem_cons.1 hq with rfl | hq
   ·exact hc
   ·exact joinF_ok t r hr ht' q hq
theorem joinL_ok {l : List Rn} (h : ∀ r, r ∈ l → r.Ok) : ∀ q, q ∈ joinL l → q.Ok := by
 cases l with
 | nil => exact fun q hq => (by cases hq)
 | cons r t => exact joinF_ok t r (h r (by simp)) (fun q hq => h q (List.mem_cons.2 (.inr hq)))
theorem Asc.lo {l : List Rn} (h : Asc l) : l.Pairwise fun a b => a.lo ≤ b.lo := h.up.imp_of_mem fun ha hb hab => cmpR_lo (h.ok _ ha) (h.ok _ hb) hab
/-- the maximal runs are the run set of all of them -/
theorem joinL_is {l : List Rn} (h : Asc l) : IsRs (joinL l) (memR l) := by
 cases l with
 | nil => exact ⟨rsc_nil, fun _ => Iff.rfl⟩
 | cons r t =>
  obtain ⟨p1, p2⟩ := List.pairwise_cons.1 h.lo
  obtain ⟨a1, a2, _⟩ := joinF_is t r (h.ok r (by simp)) (fun q hq => h.ok q (List.mem_cons.2 (.inr hq))) p1 p2
  exact ⟨a1, fun x => by rw [memR_cons]; exact a2 x⟩
end Go.Proofs.YtndjcmclmhoigaaGreatDoor
namespace Go.Proofs.YtndjcmclmhoigaaGreatDoor
open Go.RowKit
set_option maxRecDepth 100000

variable {w W u : World} {a : Option Addr} {l : List Rn} {v : Value}
/-- a list of runs that is handed back, with room for its elements -/
def JnR (w : World) (m : List Rn) (x : Ending) (w' : World) : Prop := (∃ b p, x = .returned (.slice b m.length p) ∧ m.length ≤ p ∧ Lr w b m w') ∧ Below w.heap.size w w'
theorem jn_of {m : List Rn} (h : Ag u m v W) (hw : Below w.heap.size w u) : JnR w m (.returned v) W := by
 obtain ⟨⟨⟨b, p, e, _, h1⟩, h2⟩, b', p', e', h3⟩ := ls_ofc h hw
 refine ⟨⟨b, p, e, ?_, h1⟩, h2⟩
 rw [e] at e'
 injection e' with e'
 injection e' with _ _ e'
 rw [e']; exact h3
/-- l[q] = r, in whatever surroundings, and what lies in other blocks -/
theorem wp_store_ag2 {o : Oper} {act : Act} {K : Act → World → Prop} {Q : Exit → Act → World → Prop} {g q cap : Nat} (x y : Operand) (ho : o.op = .store 26 x y) (r : Rn)
 (hG : Ag u l (.slice (some ⟨g, 0, none⟩) l.length cap) W) (hq : q < l.length) (hx : act.eval x = .pointer (some ⟨g, q * 4, none⟩)) (hy : act.eval y = .agg #[.int .i8 r.f, .int .i64 r.d, .int .i8 r.g, .int .i64 r.e])
 (h : ∀ W', Ag u (l.set q r) (.slice (some ⟨g, 0, none⟩) l.length cap) W' → (∀ j, j ≠ g → W'.heap[j]? = W.heap[j]?) → K (act.put o.dst undef) W') : o.wp Tryz.prog act W K Q :=
 wp_store_mid 26 x y ho g (q * 4) #[.int .i8 r.f, .int .i64 r.d, .int .i8 r.g, .int .i64 r.e] hx hy (hG.there hq) (by kernel_rfl) (by simp [Value.oneCell']) (h _ (hG.put hq) (fun j hj => heap_cellsN hj _ _ _))
theorem Ro.kept {g : Nat} {r : Rn} {u W W' : World} (h : Ro u g r W) (hb : Below u.heap.size u W') (hh : W'.heap[g]? = W.heap[g]?) : Ro u g r W' := ⟨hb, h.base, by rw [hh]; exact h.heap⟩
set_option maxHeartbeats 8000000 in
theorem dJoinL_is {cap : Nat} (hok : ∀ r, r ∈ l → r.Ok) (nl : l.length ≤ 1000000) (al : Lr w a l w) (hE : LaidEn w) :
 Calls Tryz.prog 105 #[.slice a l.length cap] w (JnR w (joinL l)) := by
 have AL := Kp.mk al
 have OK := Kp.mk hok
 have EN := Kp.mk hE
 have HA := Kp.mk (ag_new w)
 obtain ⟨n, hn⟩ : ∃ n, l.length = n := ⟨_, rfl⟩
 have HN := Kp.mk hn
 rw [hn] at nl ⊢
 clear al hok hn hE
 go_enter Tryz.func105, Tryz.ntmps105
 go_wp2_with fail
 go_loopw [3, 9] (fun v i wr => ∃ (p : Nat) (os : List Rn), p ≤ n ∧ i = .int .i64 (p : Int) ∧ os.length ≤ p ∧ Kp (os = joinL (l.take p)) ∧ Kp (Ag w os v wr)) (fun _ i _ => n - (intOf i).toNat)
 case atStart => exact ⟨0, [], by omega, rfl, by simp, Kp.mk rfl, HA⟩
 case round =>
  clear HA
  obtain ⟨p, os, hp, rfl, hos, HO, HA⟩ := hrel
  by_cases h1 : p < n
  ·have d1 : decide ((p : Int) < (n : Int)) = true := decide_eq_true (by omega)
   have d2 : (p : Int) < (n : Int) := by omega
   have wp : IntKind.i64.wrap ((p : Int) + 1) = (p : Int) + 1 := IntWalk.i64_in _ (by omega)
   obtain ⟨r, hr⟩ : ∃ r, l[p]? = some r := ⟨l[p]'(by have := HN.out; omega), List.getElem?_eq_getElem _⟩
   have H1 := Kp.mk hr
   have HT : Kp (l.take (p + 1) = l.take p ++ [r]) := Kp.mk (by rw [List.take_add_one, hr]; rfl)
   have hro := OK.out r (List.mem_of_getElem? hr)
   obtain ⟨g, s, rfl⟩ := AL.out.place hr
   obtain ⟨k0, k1, k2, k3⟩ := (AL.out.step HA.out.below).cells hr
   clear hr
   go_upto_region 5 with fail
   clear k0 k1 k2 k3
   have hbl := (Below.refl wr.heap.size wr).alloc (Nat.le_refl _) (.cells #[.int .i8 r.f, .int .i64 r.d, .int .i8 r.g, .int .i64 r.e] 26)
   have HGR := Kp.mk HA.out.own.lt
   have HR := Kp.mk (ro_of (r := r) HA.out.below)
   have HA := Kp.mk (HA.out.step hbl)
   clear hbl
   generalize wr.alloc (.cells #[.int .i8 r.f, .int .i64 r.d, .int .i8 r.g, .int .i64 r.e] 26) = u0 at *
   generalize wr.heap.size = gr at *
   by_cases hz : os = []
   ·subst hz
    obtain ⟨b, cp, hv, _, _⟩ := HA.out.row (Below.refl _ _)
    subst hv
    have HE : Kp ([r] = joinL (l.take (p + 1))) := Kp.mk (by
     rw [HT.out]
     have e := HO.out
     cases ht : l.take p with
     | nil => rfl
     | cons c t => rw [ht] at e; exact absurd e.symm (joinF_non t c))
    have t0 : decide ((0 : Int) < ((([] : List Rn).length : Nat) : Int)) = false := rfl
    clear HO HT hro
    have HS := Kp.mk hos
    go_upto_region 6 with fail
    have hbl := (Below.refl u0.heap.size u0).drew
    have HAz := Kp.mk (HA.out.step hbl)
    have HRz := Kp.mk (HR.out.step hbl)
    obtain ⟨k0z, k1z, k2z, k3z⟩ := HRz.out.cs
    clear hbl
    refine wp_region_held_drew (S := fun w' => w'.cell? ⟨gr, 0, none⟩ = some (.int .i8 r.f) ∧ w'.cell? ⟨gr, 1, none⟩ = some (.int .i64 r.d) ∧ w'.cell? ⟨gr, 2, none⟩ = some (.int .i8 r.g) ∧ w'.cell? ⟨gr, 3, none⟩ = some (.int .i64 r.e)) (by kernel_rfl) ?_ (fun hHeld => ?_)
    ·with_reducible exact ⟨k0z, k1z, k2z, k3z⟩
    refine tk 0 ?_ rfl hHeld ?_ ?_
    rotate_left
    ·(intro w hSw; (try dsimp only at hSw); go_simp; try with_reducible rfl)
    try simp only [pt]
    refine tk 1 ?_ rfl hHeld ?_ ?_
    rotate_left
    ·(intro w hSw; (try dsimp only at hSw); go_simp; try with_reducible rfl)
    try simp only [pt]
    refine tk 2 ?_ rfl hHeld ?_ ?_
    rotate_left
    ·(intro w hSw; (try dsimp only at hSw); go_simp; try with_reducible rfl)
    try simp only [pt]
    refine takeOut (i := 3) rfl (by kernel_rfl) (by kernel_rfl) (by kernel_rfl) (fun _ _ _ h => h) (by rfl) hHeld ?_
    try simp only [pt]
    refine takeOut (i := 4) rfl (by kernel_rfl) (by kernel_rfl) (by kernel_rfl) (fun _ _ _ h => h) (by rfl) hHeld ?_
    try simp only [pt]
    refine takeOut (i := 5) rfl (by kernel_rfl) (by kernel_rfl) (by kernel_rfl) (fun _ _ _ h => h) (by rfl) hHeld ?_
    try simp only [pt]
    refine takeOut (i := 6) rfl (by kernel_rfl) (by kernel_rfl) (by kernel_rfl) (fun _ _ _ h => h) (by rfl) hHeld ?_
    try simp only [pt]
    refine takeOut (i := 7) rfl (by kernel_rfl) (by kernel_rfl) (by kernel_rfl) (fun _ _ _ h => h) (by rfl) hHeld ?_
    try simp only [pt]
    refine takeOut (i := 8) rfl (by kernel_rfl) (by kernel_rfl) (by kernel_rfl) (fun _ _ _ h => h) (by rfl) hHeld ?_
    try simp only [pt]
    refine takeOut (i := 9) rfl (by kernel_rfl) (by kernel_rfl) (by kernel_rfl) (fun _ _ _ h => h) (by rfl) hHeld ?_
    try simp only [pt]
    refine tk 10 ?_ rfl hHeld ?_ ?_
    rotate_left
    ·(intro w hSw; (try dsimp only at hSw); go_simp; try with_reducible rfl)
    try simp only [pt]
    refine wpAnyH_done (by kernel_rfl) ?_ _
    clear hHeld
    have HA := HAz
    have HR := HRz
    clear k0z k1z k2z k3z
    obtain ⟨k0, k1, k2, k3⟩ := HR.out.cs
    go_upto_region 8 with fail
    go_wp2_with (at_builtin; refine wpList_append_ls rfl (.tmp 40) (.tmp 42) rfl (HA.out.step ((Below.refl u0.drew.heap.size u0.drew).alloc (Nat.le_refl _) (.cells #[.int .i8 r.f, .int .i64 r.d, .int .i8 r.g, .int .i64 r.e] 26))) (lr_one (w := w) r HA.out.below) (fun e => (by cases e)) rfl rfl (by have := HS.out; simp only [List.length_cons, List.length_nil]; omega) ?_)
    intro vn wn hgn
    have HA : Kp (Ag w ([] ++ [r]) vn wn) := Kp.mk (by simpa using hgn)
    clear hgn k0 k1 k2 k3
    go_wp2_with fail
    go_roundw
    case rel => exact ⟨p + 1, [] ++ [r], by omega, by go_num, by rw [List.length_append]; have := HS.out; simp only [List.length_cons, List.length_nil]; omega, HE, HA⟩
    case measure => simp [intOf]; omega
   ·obtain ⟨q, t, rfl⟩ : ∃ q t, os = q ++ [t] := by
     rcases List.eq_nil_or_concat os with e | ⟨q, t, e⟩
     ·exact absurd e hz
     ·exact ⟨q, t, by rw [e, List.concat_eq_append]⟩
    have hto : t.Ok := joinL_ok (l := l.take p) (fun x hx => OK.out x (List.mem_of_mem_take hx)) t (by rw [← HO.out]; simp)
    have HJ := Kp.mk (joinL_add (r := r) HO.out.symm)
    have H2 : Kp ((q ++ [t])[q.length]? = some t) := Kp.mk (by simp)
    have hlen : (q ++ [t]).length = q.length + 1 := by simp
    obtain ⟨b, cp, hv, _, hbb⟩ := HA.out.row (Below.refl _ _)
    obtain ⟨g9, hg9⟩ : ∃ g9, b = some ⟨g9, 0, none⟩ := by
     obtain ⟨_, ⟨e, hn0⟩ | ⟨g2, cap2, cur, e, _⟩⟩ := HA.out.own
     ·rw [hlen] at hn0; omega
     ·rw [hv] at e; injection e with e; exact ⟨g2, e⟩
    subst hg9
    subst hv
    have HNE : Kp (gr ≠ g9) := Kp.mk (by have := (HGR.out g9 rfl).2; omega)
    have HV := Kp.mk hlen
    rw [hlen] at hos HA ⊢
    have HQ := Kp.mk (show q.length < (q ++ [t]).length by rw [hlen]; omega)
    obtain ⟨k, hk⟩ : ∃ k, q.length = k := ⟨_, rfl⟩
    have HK := Kp.mk hk
    rw [hk] at H2 HA hos ⊢
    obtain ⟨m, hm⟩ : ∃ m, k + 1 = m := ⟨_, rfl⟩
    have HM := Kp.mk hm
    rw [hm] at HA hos ⊢
    have m0 : decide (0 < m) = true := decide_eq_true (by omega)
    have m1 : decide ((0 : Int) < (m : Int)) = true := decide_eq_true (by omega)
    have m2 : 0 < m := by omega
    have w8 : IntKind.i64.wrap ((m : Int) - 1) = (k : Int) := by rw [show (m : Int) - 1 = (k : Int) by omega]; exact IntWalk.i64_in _ (by omega)
    have q1 : (k : Int) < (m : Int) := by omega
    have q2 : k < m := by omega
    by_cases ht : touchN t r = true
    ·have HE : Kp (q ++ [joinN t r] = joinL (l.take (p + 1))) := Kp.mk (by rw [HT.out, HJ.out, if_pos ht])
     have rt := Kp.mk (fun (u : World) (h : Below w.heap.size w u) => dTouch_is hto.toIn hro.toIn ht u (EN.out.below h))
     have rj := Kp.mk (fun (u : World) (h : Below w.heap.size w u) => dJoin_is hto.toIn hro.toIn ht rfl u (EN.out.below h))
     clear HO hbb hto hro hlen hk hm hz HJ HT ht
     go_upto_region 6 with fail
     have hbl := (Below.refl u0.heap.size u0).drew
     have HAz := Kp.mk (HA.out.step hbl)
     have HRz := Kp.mk (HR.out.step hbl)
     obtain ⟨k0z, k1z, k2z, k3z⟩ := HAz.out.at H2.out
     obtain ⟨k4z, k5z, k6z, k7z⟩ := HRz.out.cs
     clear hbl
     refine wp_region_held_drew (S := fun w' => w'.cell? ⟨g9, k * 4, none⟩ = some (.int .i8 t.f) ∧ w'.cell? ⟨g9, k * 4 + 1, none⟩ = some (.int .i64 t.d) ∧ w'.cell? ⟨g9, k * 4 + 2, none⟩ = some (.int .i8 t.g) ∧ w'.cell? ⟨g9, k * 4 + 3, none⟩ = some (.int .i64 t.e) ∧ w'.cell? ⟨gr, 0, none⟩ = some (.int .i8 r.f) ∧ w'.cell? ⟨gr, 1, none⟩ = some (.int .i64 r.d) ∧ w'.cell? ⟨gr, 2, none⟩ = some (.int .i8 r.g) ∧ w'.cell? ⟨gr, 3, none⟩ = some (.int .i64 r.e)) (by kernel_rfl) ?_ (fun hHeld => ?_)
     ·with_reducible exact ⟨k0z, k1z, k2z, k3z, k4z, k5z, k6z, k7z⟩
     refine tk 0 ?_ rfl hHeld ?_ ?_
     rotate_left
     ·(intro w hSw; (try dsimp only at hSw); go_simp; try with_reducible rfl)
     try simp only [pt]
     refine tk 1 ?_ rfl hHeld ?_ ?_
     rotate_left
     ·(intro w hSw; (try dsimp only at hSw); go_simp; try with_reducible rfl)
     try simp only [pt]
     refine tk 2 ?_ rfl hHeld ?_ ?_
     rotate_left
     ·(intro w hSw; (try dsimp only at hSw); go_simp; try with_reducible rfl)
     try simp only [pt]
     refine tk 3 ?_ rfl hHeld ?_ ?_
     rotate_left
     ·(intro w hSw; (try dsimp only at hSw); go_simp; try with_reducible rfl)
     try simp only [pt]
     refine tk 4 ?_ rfl hHeld ?_ ?_
     rotate_left
     ·(intro w hSw; (try dsimp only at hSw); go_simp; try with_reducible rfl)
     try simp only [pt]
     refine tk 5 ?_ rfl hHeld ?_ ?_
     rotate_left
     ·(intro w hSw; (try dsimp only at hSw); go_simp; try with_reducible rfl)
     try simp only [pt]
     refine tk 6 ?_ rfl hHeld ?_ ?_
     rotate_left
     ·(intro w hSw; (try dsimp only at hSw); go_simp; try with_reducible rfl)
     try simp only [pt]
     refine tk 7 ?_ rfl hHeld ?_ ?_
     rotate_left
     ·(intro w hSw; (try dsimp only at hSw); go_simp; try with_reducible rfl)
     try simp only [pt]
     refine tk 8 ?_ rfl hHeld ?_ ?_
     rotate_left
     ·(intro w hSw; (try dsimp only at hSw); go_simp; try with_reducible rfl)
     try simp only [pt]
     refine rd [9] ?_
     refine AllReadyH.cons (dropAt rfl) (fun K hK => ?_) AllReadyH.nil
     go_simp
     go_at_call 22
     with_reducible refine (rt.out _ HAz.out.below).mono ?_
     rintro e y1 ⟨rfl, hb⟩
     have HA_y1 := Kp.mk (HAz.out.step hb)
     have HR_y1 := Kp.mk (HRz.out.step hb)
     obtain ⟨k0_y1, k1_y1, k2_y1, k3_y1⟩ := HA_y1.out.at H2.out
     obtain ⟨k4_y1, k5_y1, k6_y1, k7_y1⟩ := HR_y1.out.cs
     clear hHeld k0z k1z k2z k3z k4z k5z k6z k7z HAz HRz hb
     go_wp2_with fail
     refine hK.out _ _ ?_ (fun hHeld => ?_)
     ·with_reducible exact ⟨k0_y1, k1_y1, k2_y1, k3_y1, k4_y1, k5_y1, k6_y1, k7_y1⟩
     clear hK K
     try simp only [pt]
     refine tk 10 ?_ rfl hHeld ?_ ?_
     rotate_left
     ·(intro w hSw; (try dsimp only at hSw); go_simp; try with_reducible rfl)
     try simp only [pt]
     refine wpAnyH_done (by kernel_rfl) ?_ _
     clear hHeld
     have HA := HA_y1
     have HR := HR_y1
     clear k0_y1 k1_y1 k2_y1 k3_y1 k4_y1 k5_y1 k6_y1 k7_y1
     go_upto_region 7 with fail
     have hbl := (Below.refl y1.heap.size y1).drew
     have HAz := Kp.mk (HA.out.step hbl)
     have HRz := Kp.mk (HR.out.step hbl)
     obtain ⟨k0z, k1z, k2z, k3z⟩ := HRz.out.cs
     clear hbl
     refine wp_region_held_drew (S := fun w' => w'.cell? ⟨gr, 0, none⟩ = some (.int .i8 r.f) ∧ w'.cell? ⟨gr, 1, none⟩ = some (.int .i64 r.d) ∧ w'.cell? ⟨gr, 2, none⟩ = some (.int .i8 r.g) ∧ w'.cell? ⟨gr, 3, none⟩ = some (.int .i64 r.e)) (by kernel_rfl) ?_ (fun hHeld => ?_)
     ·with_reducible exact ⟨k0z, k1z, k2z, k3z⟩
     refine tk 0 ?_ rfl hHeld ?_ ?_
     rotate_left
     ·(intro w hSw; (try dsimp only at hSw); go_simp; try with_reducible rfl)
     try simp only [pt]
     refine tk 1 ?_ rfl hHeld ?_ ?_
     rotate_left
     ·(intro w hSw; (try dsimp only at hSw); go_simp; try with_reducible rfl)
     try simp only [pt]
     refine tk 2 ?_ rfl hHeld ?_ ?_
     rotate_left
     ·(intro w hSw; (try dsimp only at hSw); go_simp; try with_reducible rfl)
     try simp only [pt]
     refine tk 3 ?_ rfl hHeld ?_ ?_
     rotate_left
     ·(intro w hSw; (try dsimp only at hSw); go_simp; try with_reducible rfl)
     try simp only [pt]
     refine tk 4 ?_ rfl hHeld ?_ ?_
     rotate_left
     ·(intro w hSw; (try dsimp only at hSw); go_simp; try with_reducible rfl)
     try simp only [pt]
     refine tk 5 ?_ rfl hHeld ?_ ?_
     rotate_left
     ·(intro w hSw; (try dsimp only at hSw); go_simp; try with_reducible rfl)
     try simp only [pt]
     refine tk 6 ?_ rfl hHeld ?_ ?_
     rotate_left
     ·(intro w hSw; (try dsimp only at hSw); go_simp; try with_reducible rfl)
     try simp only [pt]
     refine tk 8 ?_ rfl hHeld ?_ ?_
     rotate_left
     ·(intro w hSw; (try dsimp only at hSw); go_simp; try with_reducible rfl)
     try simp only [pt]
     refine rd [7] ?_
     refine AllReadyH.cons (dropAt rfl) (fun K hK => ?_) AllReadyH.nil
     obtain ⟨q0, q1, q2, q3⟩ := HAz.out.at H2.out
     go_simp
     refine hK.out _ _ ?_ (fun hHeld => ?_)
     ·with_reducible exact ⟨k0z, k1z, k2z, k3z⟩
     clear hK K
     try simp only [pt]
     refine rd [9] ?_
     refine AllReadyH.cons (dropAt rfl) (fun K hK => ?_) AllReadyH.nil
     go_simp
     go_at_call 20
     with_reducible refine (rj.out _ HAz.out.below).mono ?_
     rintro e y2 ⟨rfl, hb⟩
     have HA_y2 := Kp.mk (HAz.out.step hb)
     have HR_y2 := Kp.mk (HRz.out.step hb)
     obtain ⟨k0_y2, k1_y2, k2_y2, k3_y2⟩ := HR_y2.out.cs
     clear hHeld k0z k1z k2z k3z HAz HRz hb
     go_wp2_with fail
     refine hK.out _ _ ?_ (fun hHeld => ?_)
     ·with_reducible exact ⟨k0_y2, k1_y2, k2_y2, k3_y2⟩
     clear hK K
     try simp only [pt]
     refine tk 10 ?_ rfl hHeld ?_ ?_
     rotate_left
     ·(intro w hSw; (try dsimp only at hSw); go_simp; try with_reducible rfl)
     try simp only [pt]
     refine tk 11 ?_ rfl hHeld ?_ ?_
     rotate_left
     ·(intro w hSw; (try dsimp only at hSw); go_simp; try with_reducible rfl)
     try simp only [pt]
     refine tk 12 ?_ rfl hHeld ?_ ?_
     rotate_left
     ·(intro w hSw; (try dsimp only at hSw); go_simp; try with_reducible rfl)
     try simp only [pt]
     refine tk 13 ?_ rfl hHeld ?_ ?_
     rotate_left
     ·(intro w hSw; (try dsimp only at hSw); go_simp; try with_reducible rfl)
     try simp only [pt]
     refine rd [14] ?_
     refine AllReadyH.cons (dropAt rfl) (fun K hK => ?_) AllReadyH.nil
     clear hHeld k0_y2 k1_y2 k2_y2 k3_y2
     refine wp_store_ag2 (.tmp 39) (.tmp 37) rfl (joinN t r) (q := k) (by have h := HA_y2.out; rw [← HM.out, ← HK.out, ← HV.out] at h; exact h) (by rw [← HK.out]; exact HQ.out) rfl rfl (fun y3 hgn hgo => ?_)
     have HA := HA_y2
     have HR := HR_y2
     have HA : Kp (Ag w (q ++ [joinN t r]) (.slice (some ⟨g9, 0, none⟩) m cp) y3) := Kp.mk (by have h := hgn; rw [HV.out, HK.out, HM.out, ← HK.out] at h; simpa using h)
     have HR := Kp.mk (HR.out.kept HA.out.below (hgo _ HNE.out))
     clear hgn hgo
     have H2 : Kp ((q ++ [joinN t r])[k]? = some (joinN t r)) := Kp.mk (by rw [← HK.out]; simp)
     obtain ⟨k0_y3, k1_y3, k2_y3, k3_y3⟩ := HR.out.cs
     refine hK.out _ _ ?_ (fun hHeld => ?_)
     ·with_reducible exact ⟨k0_y3, k1_y3, k2_y3, k3_y3⟩
     clear hK K
     refine wpAnyH_done (by kernel_rfl) ?_ _
     clear hHeld
     have HA := HA
     have HR := HR
     clear k0_y3 k1_y3 k2_y3 k3_y3
     go_wp2_with fail
     go_roundw
     case rel => exact ⟨p + 1, q ++ [joinN t r], by omega, by go_num, by rw [List.length_append]; have := HK.out; have := HM.out; simp only [List.length_cons, List.length_nil]; omega, HE, HA⟩
     case measure => simp [intOf]; omega
    ·have HE : Kp (q ++ [t] ++ [r] = joinL (l.take (p + 1))) := Kp.mk (by rw [HT.out, HJ.out, if_neg ht])
     have rt := Kp.mk (fun (u : World) (h : Below w.heap.size w u) => dTouch_is hto.toIn hro.toIn (Bool.eq_false_iff.2 ht) u (EN.out.below h))
     clear HO hbb hto hro hlen hk hm hz HJ HT ht
     have HS := Kp.mk (show (q ++ [t]).length ≤ p by rw [HV.out, HK.out, HM.out]; exact hos)
     go_upto_region 6 with fail
     have hbl := (Below.refl u0.heap.size u0).drew
     have HAz := Kp.mk (HA.out.step hbl)
     have HRz := Kp.mk (HR.out.step hbl)
     obtain ⟨k0z, k1z, k2z, k3z⟩ := HAz.out.at H2.out
     obtain ⟨k4z, k5z, k6z, k7z⟩ := HRz.out.cs
     clear hbl
     refine wp_region_held_drew (S := fun w' => w'.cell? ⟨g9, k * 4, none⟩ = some (.int .i8 t.f) ∧ w'.cell? ⟨g9, k * 4 + 1, none⟩ = some (.int .i64 t.d) ∧ w'.cell? ⟨g9, k * 4 + 2, none⟩ = some (.int .i8 t.g) ∧ w'.cell? ⟨g9, k * 4 + 3, none⟩ = some (.int .i64 t.e) ∧ w'.cell? ⟨gr, 0, none⟩ = some (.int .i8 r.f) ∧ w'.cell? ⟨gr, 1, none⟩ = some (.int .i64 r.d) ∧ w'.cell? ⟨gr, 2, none⟩ = some (.int .i8 r.g) ∧ w'.cell? ⟨gr, 3, none⟩ = some (.int .i64 r.e)) (by kernel_rfl) ?_ (fun hHeld => ?_)
     ·with_reducible exact ⟨k0z, k1z, k2z, k3z, k4z, k5z, k6z, k7z⟩
     refine tk 0 ?_ rfl hHeld ?_ ?_
     rotate_left
     ·(intro w hSw; (try dsimp only at hSw); go_simp; try with_reducible rfl)
     try simp only [pt]
     refine tk 1 ?_ rfl hHeld ?_ ?_
     rotate_left
     ·(intro w hSw; (try dsimp only at hSw); go_simp; try with_reducible rfl)
     try simp only [pt]
     refine tk 2 ?_ rfl hHeld ?_ ?_
     rotate_left
     ·(intro w hSw; (try dsimp only at hSw); go_simp; try with_reducible rfl)
     try simp only [pt]
     refine tk 3 ?_ rfl hHeld ?_ ?_
     rotate_left
     ·(intro w hSw; (try dsimp only at hSw); go_simp; try with_reducible rfl)
     try simp only [pt]
     refine tk 4 ?_ rfl hHeld ?_ ?_
     rotate_left
     ·(intro w hSw; (try dsimp only at hSw); go_simp; try with_reducible rfl)
     try simp only [pt]
     refine tk 5 ?_ rfl hHeld ?_ ?_
     rotate_left
     ·(intro w hSw; (try dsimp only at hSw); go_simp; try with_reducible rfl)
     try simp only [pt]
     refine tk 6 ?_ rfl hHeld ?_ ?_
     rotate_left
     ·(intro w hSw; (try dsimp only at hSw); go_simp; try with_reducible rfl)
     try simp only [pt]
     refine tk 7 ?_ rfl hHeld ?_ ?_
     rotate_left
     ·(intro w hSw; (try dsimp only at hSw); go_simp; try with_reducible rfl)
     try simp only [pt]
     refine tk 8 ?_ rfl hHeld ?_ ?_
     rotate_left
     ·(intro w hSw; (try dsimp only at hSw); go_simp; try with_reducible rfl)
     try simp only [pt]
     refine rd [9] ?_
     refine AllReadyH.cons (dropAt rfl) (fun K hK => ?_) AllReadyH.nil
     go_simp
     go_at_call 22
     with_reducible refine (rt.out _ HAz.out.below).mono ?_
     rintro e y1 ⟨rfl, hb⟩
     have HA_y1 := Kp.mk (HAz.out.step hb)
     have HR_y1 := Kp.mk (HRz.out.step hb)
     obtain ⟨k0_y1, k1_y1, k2_y1, k3_y1⟩ := HA_y1.out.at H2.out
     obtain ⟨k4_y1, k5_y1, k6_y1, k7_y1⟩ := HR_y1.out.cs
     clear hHeld k0z k1z k2z k3z k4z k5z k6z k7z HAz HRz hb
     go_wp2_with fail
     refine hK.out _ _ ?_ (fun hHeld => ?_)
     ·with_reducible exact ⟨k0_y1, k1_y1, k2_y1, k3_y1, k4_y1, k5_y1, k6_y1, k7_y1⟩
     clear hK K
     try simp only [pt]
     refine tk 10 ?_ rfl hHeld ?_ ?_
     rotate_left
     ·(intro w hSw; (try dsimp only at hSw); go_simp; try with_reducible rfl)
     try simp only [pt]
     refine wpAnyH_done (by kernel_rfl) ?_ _
     clear hHeld
     have HA := HA_y1
     have HR := HR_y1
     clear k0_y1 k1_y1 k2_y1 k3_y1 k4_y1 k5_y1 k6_y1 k7_y1
     obtain ⟨k0, k1, k2, k3⟩ := HR.out.cs
     go_upto_region 8 with fail
     go_wp2_with (at_builtin; refine wpList_append_ls rfl (.tmp 40) (.tmp 42) rfl (HA.out.step ((Below.refl y1.heap.size y1).alloc (Nat.le_refl _) (.cells #[.int .i8 r.f, .int .i64 r.d, .int .i8 r.g, .int .i64 r.e] 26))) (lr_one (w := w) r HA.out.below) (fun e => (by cases e)) rfl rfl (by have := HS.out; simp only [List.length_cons, List.length_nil]; omega) ?_)
     intro vn wn hgn
     have HA : Kp (Ag w ((q ++ [t]) ++ [r]) vn wn) := Kp.mk (by simpa using hgn)
     clear hgn k0 k1 k2 k3
     go_wp2_with fail
     go_roundw
     case rel => exact ⟨p + 1, (q ++ [t]) ++ [r], by omega, by go_num, by rw [List.length_append]; have := HS.out; simp only [List.length_cons, List.length_nil]; omega, HE, HA⟩
     case measure => simp [intOf]; omega
  ·obtain rfl : p = n := by omega
   have HE : Kp (os = joinL l) := Kp.mk (by rw [HO.out, List.take_of_length_le (by have := HN.out; omega)])
   have d1 : decide ((p : Int) < (p : Int)) = false := decide_eq_false (by omega)
   go_wp2_with fail
   go_ret
   rw [← HE.out]
   exact jn_of HA.out (Below.refl _ _)
end Go.Proofs.YtndjcmclmhoigaaGreatDoor
namespace Go.Proofs.YtndjcmclmhoigaaGreatDoor
open Go.RowKit
set_option maxRecDepth 100000

variable {w W : World} {a : Option Addr} {l : List Rn}
theorem memR_perm2 {l m : List Rn} (h : l.Perm m) (x : Int) : memR l x ↔ memR m x := by
 constructor
 ·rintro ⟨r, hr, q⟩; exact ⟨r, h.mem_iff.1 hr, q⟩
 ·rintro ⟨r, hr, q⟩; exact ⟨r, h.mem_iff.2 hr, q⟩
def OfR (l : List Rn) (c : Int) (w : World) (x : Ending) (w' : World) : Prop := (c = 0 → SetOf (memR l) w x w') ∧ (¬ c = 0 → NoSet c w x w')
theorem Lr.own {u : World} (h : Lr u a l W) : Lr W a l W := ⟨Below.refl _ _, h.at4⟩
set_option maxHeartbeats 4000000 in
theorem dOfS_is {cap : Nat} {c : Int} (hin : ∀ r, r ∈ l → r.In) (hn : l.length ≤ maxLen) (hc : ofRs l = c) (al : Lr w a l w) (hE : LaidEn w) :
 Calls Tryz.prog 43 #[.slice a l.length cap] w (OfR l c w) := by
 have HL := Kp.mk al
 have HI := Kp.mk hin
 have EN := Kp.mk hE
 have hn2 : l.length ≤ 9223372036854775807 := by unfold maxLen at hn; omega
 clear al hin hn hE
 obtain ⟨n, hnn⟩ : ∃ n, l.length = n := ⟨_, rfl⟩
 unfold ofRs at hc
 rw [hnn] at hn2 hc ⊢
 by_cases h0 : 4096 < n
 ·rw [if_pos h0] at hc
  subst hc
  have t0 : decide ((4096 : Int) < (n : Int)) = true := decide_eq_true (by omega)
  go_enter Tryz.func43, Tryz.ntmps43
  go_wp2_with fail
  go_ret2
  exact ⟨fun h => absurd h (by decide), fun _ => ⟨⟨none, 0, rfl⟩, HL.out.below⟩⟩
 ·rw [if_neg h0] at hc
  have t0 : decide ((4096 : Int) < (n : Int)) = false := decide_eq_false (by omega)
  go_enter Tryz.func43, Tryz.ntmps43
  go_wp2_with fail
  go_loopw [12] (fun i wr => ∃ p : Nat, p ≤ n ∧ i = .int .i64 (p : Int) ∧ frsR (l.drop p) = c ∧ Kp (OkTo l p) ∧ Kp (Lr w a l wr)) (fun i _ => n - (intOf i).toNat)
  case atStart => exact ⟨0, by omega, rfl, hc, ⟨fun _ _ h => by omega⟩, HL⟩
  case round =>
   obtain ⟨p, hp, rfl, hq, HO, HL⟩ := hrel
   by_cases h1 : p < n
   ·have t1 : decide ((p : Int) < (n : Int)) = true := decide_eq_true (by omega)
    have b1 : (p : Int) < (n : Int) := by omega
    obtain ⟨r, hr⟩ : ∃ r, l[p]? = some r := ⟨l[p]'(by omega), List.getElem?_eq_getElem (by omega)⟩
    obtain ⟨g, s, rfl⟩ := HL.out.place hr
    rw [drop_at hr] at hq
    have hri := HI.out r (List.mem_of_getElem? hr)
    obtain ⟨v, hv⟩ : ∃ v, chkR r = v := ⟨_, rfl⟩
    have rc : Kp (∀ u, Below w.heap.size w u → Calls Tryz.prog 15 #[.agg #[.int .i8 r.f, .int .i64 r.d, .int .i8 r.g, .int .i64 r.e]] u fun e w' => e = .returned (.int .i64 v) ∧ Below u.heap.size u w') := Kp.mk (fun u hw => dRChk_is hri hv u (EN.out.below hw))
    have wp1 : IntKind.i64.wrap ((p : Int) + 1) = (p : Int) + 1 := IntWalk.i64_in _ (by omega)
    obtain ⟨k0, k1, k2, k3⟩ := HL.out.cells hr
    go_upto_region 6 with fail
    clear k0 k1 k2 k3
    have hbl := (Below.refl wr.heap.size wr).alloc (Nat.le_refl _) (.cells #[.int .i8 r.f, .int .i64 r.d, .int .i8 r.g, .int .i64 r.e] 26)
    have HR := Kp.mk (ro_of (r := r) HL.out.below)
    have HL := Kp.mk (HL.out.step hbl)
    clear hbl
    generalize wr.alloc (.cells #[.int .i8 r.f, .int .i64 r.d, .int .i8 r.g, .int .i64 r.e] 26) = u0 at *
    generalize wr.heap.size = gr at *
    unfold frsR at hq
    by_cases h2 : v = 0
    ·subst h2
     rw [if_pos hv] at hq
     have HO := Kp.mk (HO.out.more ((chkR_zero hri).1 hv) hr)
     clear hv hri
     obtain ⟨r0, r1, r2, r3⟩ := HR.out.cs
     go_wp2_with fail
     refine (rc.out _ HL.out.below).mono ?_
     rintro e v1 ⟨rfl, hbl⟩
     have HL := Kp.mk (HL.out.step hbl)
     clear hbl r0 r1 r2 r3
     go_wp2_with fail
     go_roundw
     case rel => exact ⟨p + 1, by omega, by go_num, hq, HO, HL⟩
     case measure => simp [intOf]; omega
    ·rw [if_neg (by rw [hv]; exact h2), hv] at hq
     have t2 : (v != 0) = true := by rw [bne_iff_ne]; exact h2
     have hne := Kp.mk h2
     subst hq
     clear hv hri h2
     obtain ⟨r0, r1, r2, r3⟩ := HR.out.cs
     go_wp2_with fail
     refine (rc.out _ HL.out.below).mono ?_
     rintro e v1 ⟨rfl, hbl⟩
     have HL := Kp.mk (HL.out.step hbl)
     clear hbl r0 r1 r2 r3
     go_wp2_with fail
     go_ret2
     exact ⟨fun h => absurd h hne.out, fun _ => ⟨⟨none, 0, rfl⟩, HL.out.below⟩⟩
   ·obtain rfl : p = n := by omega
    rw [List.drop_of_length_le (by omega)] at hq
    obtain rfl : 0 = c := hq
    have HOK := Kp.mk (ok_all HO.out (by omega))
    have HN : Kp (l.length ≤ 4096) := Kp.mk (by omega)
    have hba := (Below.refl wr.heap.size wr).alloc (Nat.le_refl _) (.cells #[.slice a p cap] 60)
    have HB0 := Kp.mk (HL.out.below.trans (hba.mono HL.out.below.size))
    have rs := dSorted_is (w := wr.alloc (.cells #[.slice a p cap] 60)) (a := a) (l := l) (Bs := wr.heap.size) (p := cap) (by omega) (by simp) (by rw [hnn]; exact (Boxed.new wr 60 (.slice a p cap)).cell) (HL.out.step hba).own
    have RS := Kp.mk rs
    have RJ := Kp.mk (fun (u : World) (m : List Rn) (b : Option Addr) (z : Nat) (hm : m.Perm l) (hb : Below w.heap.size w u) (hl : Lr u b m u) => dJoinL_is (cap := z) (fun r hr => HOK.out r (hm.mem_iff.1 hr)) (by rw [hm.length_eq]; have := HN.out; omega) hl (EN.out.below hb))
    clear rs hba hnn hn2 t0 h0
    go_wp2_with (go_at_call 107; refine (dVals_is _).mono ?_; rintro e y ⟨rfl, rfl⟩)
    refine RS.out.mono ?_
    rintro e y1 ⟨b1, m1, z1, rfl, hp1, hs1, hl1⟩
    have HY := Kp.mk (HB0.out.trans (hl1.below.mono HB0.out.size))
    have RJ := Kp.mk (RJ.out y1 m1 b1 z1 hp1 HY.out hl1.own)
    have HJ : Kp (IsRs (joinL m1) (memR l)) := Kp.mk ((joinL_is ⟨fun r hr => HOK.out r (hp1.mem_iff.1 hr), hs1⟩).congr (fun x => memR_perm2 hp1 x))
    clear hp1 hs1 hl1 RS
    generalize m1.length = n1 at *
    go_wp2_with fail
    refine RJ.out.mono ?_
    rintro e y2 ⟨⟨b2, z2, rfl, hz2, hl2⟩, hb2⟩
    have rcu := Kp.mk (fun w => dCut_is (a := b2) hz2 w)
    have HM := Kp.mk (hl2.from HY.out)
    clear hl2 hz2 hb2 RJ
    obtain ⟨mj, hmj⟩ : ∃ mj, joinL m1 = mj := ⟨_, rfl⟩
    rw [hmj] at HJ HM rcu ⊢
    clear hmj
    obtain ⟨nj, hnj⟩ : ∃ nj, mj.length = nj := ⟨_, rfl⟩
    have HNJ := Kp.mk hnj
    rw [hnj] at rcu ⊢
    clear hnj
    go_wp2_with fail
    refine (rcu.out _).mono ?_
    rintro e y3 ⟨rfl, hb3⟩
    have HM := Kp.mk (HM.out.step hb3)
    clear hb3 rcu
    go_wp2_with fail
    go_ret2
    have hz := HNJ.out
    subst hz
    exact ⟨fun _ => ⟨⟨mj, b2, HJ.out, rfl, HM.out⟩, HM.out.below⟩, fun h => absurd rfl h⟩
end Go.Proofs.YtndjcmclmhoigaaGreatDoor
namespace Go.Proofs.YtndjcmclmhoigaaGreatDoor
open Go.RowKit
set_option maxRecDepth 100000

variable {w W W' : World} {a : Option Addr} {l : List Rn} {g p n : Nat}
theorem infoStr : (Tryz.prog.info? 9).map (fun i => (i.zero, i.size, i.bytes)) = some (some (.string ⟨#[]⟩), 1, 16) := by kernel_rfl
theorem infoStr_parts : ∃ i, Tryz.prog.info? 9 = some i ∧ i.zero = some (.string ⟨#[]⟩) ∧ i.size = 1 ∧ i.bytes = 16 := by
 have h := infoStr
 cases e : Tryz.prog.info? 9 with
 | none => rw [e] at h; cases h
 | some i =>
  rw [e] at h
  simp only [Option.map_some, Option.some.injEq, Prod.mk.injEq] at h
  exact ⟨i, rfl, h.1, h.2.1, h.2.2⟩
/-- the texts of the first p runs, then n of no byte -/
def txs (l : List Rn) (p n : Nat) : List Value := (l.take p).map (fun r => Value.string (bs (textR r))) ++ List.replicate n (.string ⟨#[]⟩)
theorem make_txs (n : Nat) (hn : n ≤ 4096) (w : World) : (Instr.makeSlice 102 (.int .i64 (n : Int)) (.int .i64 (n : Int))).run Tryz.prog w = .ok (.slice (some ⟨w.heap.size, 0, none⟩) n n) (w.alloc (.cells (txs l 0 n).toArray 9)) := by
 obtain ⟨i0, hi, hz0, hz1, hz2⟩ := infoStr_parts
 have hr := run_make (P := Tryz.prog) w 102 9 i0 (.string ⟨#[]⟩) Tryz.underlying102 hi hz0 .i64 .i64 n n (by omega) (Int.le_refl _) (by rw [hz2]; omega) (by omega)
 simp only [Int.toNat_natCast] at hr
 rw [hr, hz1]
 show Result.ok _ (w.alloc (.cells (madeCells #[.string ⟨#[]⟩] (n * 1)) _)) = _
 have e : madeCells #[Value.string ⟨#[]⟩] (n * 1) = (txs l 0 n).toArray := by
  apply Array.ext'
  rw [Nat.mul_one, toList_madeCells_one]
  unfold txs
  simp
 rw [e]
/-- the block of the texts -/
structure Tx (w : World) (g : Nat) (l : List Rn) (p n : Nat) (W : World) : Prop where
 below : Below w.heap.size w W
 base : w.heap.size ≤ g
 heap : W.heap[g]? = some (.cells (txs l p n).toArray 9 (0, 0))
theorem Tx.lt (h : Tx w g l p n W) : g < W.heap.size := (Array.getElem?_eq_some_iff.1 h.heap).1
theorem Tx.step (h : Tx w g l p n W) (hb : Below W.heap.size W W') : Tx w g l p n W' := ⟨h.below.trans (hb.mono h.below.size), h.base, by rw [hb.block _ h.lt]; exact h.heap⟩
theorem Tx.cell (h : Tx w g l p (n + 1) W) (hp : p ≤ l.length) : W.cell? ⟨g, p, none⟩ = some (.string ⟨#[]⟩) := by
 rw [cell_of_row W g p _ _ _ h.heap]
 unfold txs
 rw [List.getElem?_toArray, List.getElem?_append_right (by simp; omega)]
 have e : p - ((l.take p).map (fun r => Value.string (bs (textR r)))).length = 0 := by simp; omega
 rw [e]
 rfl
theorem Tx.frozen (h : Tx w g l p n W) (j : Nat) : W.frozen? ⟨g, j, none⟩ = false := frozen_of_row W g j _ _ h.heap
theorem Tx.put {r : Rn} (h : Tx w g l p (n + 1) W) (hr : l[p]? = some r) : Tx w g l (p + 1) n (W.setCell ⟨g, p, none⟩ (.string (bs (textR r)))) := by
 have hp := (List.getElem?_eq_some_iff.1 hr).1
 refine ⟨h.below.setCell (p := ⟨g, p, none⟩) h.base _, h.base, ?_⟩
 rw [heap_setCell_same W g p _ _ _ h.heap]
 congr 2
 apply Array.ext'
 rw [Array.toList_setIfInBounds]
 show (txs l p (n + 1)).set p _ = txs l (p + 1) n
 unfold txs
 rw [List.take_add_one, hr, List.set_append_right _ _ (by simp; omega)]
 have e : p - ((l.take p).map (fun r => Value.string (bs (textR r)))).length = 0 := by simp; omega
 rw [e, List.replicate_succ]
 simp
theorem Tx.cells (h : Tx w g l l.length n W) (j : Nat) (x : ByteArray) (hx : (l.map fun r => bs (textR r))[j]? = some x) : W.cell? ⟨g, 0 + j, none⟩ = some (.string x) := by
 rw [Nat.zero_add, cell_of_row W g j _ _ _ h.heap]
 unfold txs
 rw [List.take_length, List.getElem?_toArray]
 rw [List.getElem?_map] at hx
 have hj : j < l.length := by
  cases e : l[j]? with
  | none => rw [e] at hx; cases hx
  | some r => exact (List.getElem?_eq_some_iff.1 e).1
 rw [List.getElem?_append_left (by simpa using hj), List.getElem?_map]
 rw [List.getElem?_eq_getElem hj] at hx ⊢
 simp at hx ⊢
 exact hx
theorem join_txt : ∀ l : List Rn, Lib.join ((l.map fun r => bs (textR r)).map (·.data.toList)) [44] = txt l
 | [] => rfl
 | [r] => by rw [txt_one]; show List.intercalate [44] [textR r] = _; simp [List.intercalate]
 | r :: s :: t => by
  have ih := join_txt (s :: t)
  rw [txt_cons2, ← ih]
  show List.intercalate [44] (textR r :: textR s :: (t.map fun r => bs (textR r)).map (·.data.toList)) = textR r ++ 44 :: List.intercalate [44] (textR s :: (t.map fun r => bs (textR r)).map (·.data.toList))
  simp [List.intercalate, List.intersperse]
set_option maxHeartbeats 4000000 in
theorem dTextS_bad {c : Int} {p : Nat} (hl : ∀ r, r ∈ l → r.In) (nl : l.length ≤ maxLen) (al : Lr w a l w) (hc : chkRs l = c) (h0 : ¬ c = 0) (hL : LaidEn w) :
 Calls Tryz.prog 69 #[.slice a l.length p] w fun x w' => x = .returned (.tuple #[.string ⟨#[]⟩, .int .i64 c]) ∧ Below w.heap.size w w' := by
 have HB := Kp.mk (Bl.mk (Below.refl w.heap.size w))
 have r1 := Kp.mk (dChkS_is (cap := p) hl hc nl al hL)
 have t1 : (c != 0) = true := by rw [bne_iff_ne]; exact h0
 clear hc h0 hl nl al hL
 generalize l.length = n at *
 go_enter Tryz.func69, Tryz.ntmps69
 go_wp2_with fail
 refine r1.out.mono ?_
 rintro e v1 ⟨rfl, hb⟩
 have HB := Kp.mk (Bl.step HB.out hb)
 clear hb
 go_wp2_with fail
 go_ret2
 exact ⟨rfl, HB.out.below⟩
set_option maxHeartbeats 8000000 in
theorem dTextS_is {p : Nat} (hl : ∀ r, r ∈ l → r.In) (nl : l.length ≤ 20) (al : Lr w a l w) (hc : chkRs l = 0) (hL : LaidEn w) :
 Calls Tryz.prog 69 #[.slice a l.length p] w fun x w' => x = .returned (.tuple #[.string (bs (textS l)), .int .i64 0]) ∧ Below w.heap.size w w' := by
 obtain ⟨_, cl⟩ := (chkRs_zero hl).1 hc
 have HB := Kp.mk (Below.refl w.heap.size w)
 have HLs := Kp.mk al
 have CL := Kp.mk cl
 have HI := Kp.mk hl
 have EN := Kp.mk hL
 have r1 := Kp.mk (dChkS_is (cap := p) hl hc (by unfold maxLen; omega) al hL)
 have HTL := Kp.mk (txt_len hl)
 have HNL := Kp.mk nl
 clear hc hl al cl hL
 by_cases hz : l = []
 ·subst hz
  go_enter Tryz.func69, Tryz.ntmps69
  go_wp2_with fail
  refine r1.out.mono ?_
  rintro e v1 ⟨rfl, hb⟩
  have HB := Kp.mk (HB.out.trans (hb.mono HB.out.size))
  clear hb r1
  go_wp2_with fail
  go_ret2
  exact ⟨rfl, HB.out⟩
 ·have HTX : Kp (textS l = txt l) := Kp.mk (by
   cases l with
   | nil => exact absurd rfl hz
   | cons r t => rfl)
  rw [HTX.out]
  have hlen : ¬ l.length = 0 := fun h => hz (List.length_eq_zero_iff.1 h)
  have HM := Kp.mk (fun (n : Nat) (h : n ≤ 4096) (w : World) => make_txs (l := l) n h w)
  obtain ⟨n, hn⟩ : ∃ n, l.length = n := ⟨_, rfl⟩
  have HN := Kp.mk hn
  rw [hn] at r1 hlen nl ⊢
  have t0 : ((n : Int) == 0) = false := by rw [beq_eq_false_iff_ne]; omega
  have mk := fun w => HM.out n (by omega) w
  clear hz hn
  go_enter Tryz.func69, Tryz.ntmps69
  go_wp2_with fail
  refine r1.out.mono ?_
  rintro e v1 ⟨rfl, hb⟩
  have HB := Kp.mk (HB.out.trans (hb.mono HB.out.size))
  clear hb r1
  go_upto_region 7 with fail
  have HT := Kp.mk (show Tx w v1.heap.size l 0 n (v1.alloc (.cells (txs l 0 n).toArray 9)) from ⟨HB.out.alloc HB.out.size _, HB.out.size, heap_alloc_new _ _⟩)
  clear mk HB HM
  generalize v1.alloc (.cells (txs l 0 n).toArray 9) = v2 at *
  generalize v1.heap.size = g at *
  go_wp2_with fail
  go_loopw [21] (fun i wr => ∃ q m : Nat, q + m = n ∧ i = .int .i64 (q : Int) ∧ Kp (Tx w g l q m wr)) (fun i _ => n - (intOf i).toNat)
  case atStart => exact ⟨0, n, by omega, rfl, HT⟩
  case round =>
   clear HT
   obtain ⟨q, m, hq, rfl, HT⟩ := hrel
   by_cases h1 : q < n
   ·have t1 : decide ((q : Int) < (n : Int)) = true := decide_eq_true (by omega)
    have b1 : (q : Int) < (n : Int) := by omega
    obtain ⟨m, rfl⟩ : ∃ k, m = k + 1 := ⟨m - 1, by omega⟩
    obtain ⟨r, hr⟩ : ∃ r, l[q]? = some r := ⟨l[q]'(by have := HN.out; omega), List.getElem?_eq_getElem (by have := HN.out; omega)⟩
    obtain ⟨g1, s1, rfl⟩ := HLs.out.place hr
    have HR0 := Kp.mk hr
    have hri := HI.out r (List.mem_of_getElem? hr)
    have hok := CL.out.ok r (List.mem_of_getElem? hr)
    have rc : Kp (∀ u, Below w.heap.size w u → Calls Tryz.prog 38 #[.agg #[.int .i8 r.f, .int .i64 r.d, .int .i8 r.g, .int .i64 r.e]] u fun e w' => e = .returned (.tuple #[.string (bs (textR r)), .int .i64 0]) ∧ Below u.heap.size u w') := Kp.mk (fun u hw => dTextR_ok hri ((chkR_zero hri).2 hok) u (EN.out.below hw))
    have wp1 : IntKind.i64.wrap ((q : Int) + 1) = (q : Int) + 1 := IntWalk.i64_in _ (by omega)
    obtain ⟨k0, k1, k2, k3⟩ := (HLs.out.step HT.out.below).cells hr
    have HQL : Kp (q ≤ l.length) := Kp.mk (by have := HN.out; omega)
    clear hr hri hok
    go_upto_region 10 with fail
    clear k0 k1 k2 k3
    have hbl := (Below.refl wr.heap.size wr).alloc (Nat.le_refl _) (.cells #[.int .i8 r.f, .int .i64 r.d, .int .i8 r.g, .int .i64 r.e] 26)
    have HR := Kp.mk (ro_of (r := r) HT.out.below)
    have HT := Kp.mk (HT.out.step hbl)
    clear hbl
    generalize wr.alloc (.cells #[.int .i8 r.f, .int .i64 r.d, .int .i8 r.g, .int .i64 r.e] 26) = u0 at *
    generalize wr.heap.size = gr at *
    obtain ⟨c0, c1, c2, c3⟩ := HR.out.cs
    go_wp2_with fail
    refine (rc.out _ HT.out.below).mono ?_
    rintro e y1 ⟨rfl, hbl⟩
    have HT := Kp.mk (HT.out.step hbl)
    clear hbl c0 c1 c2 c3 HR rc
    have ct := HT.out.cell HQL.out
    have cf := HT.out.frozen q
    go_wp2_with fail
    go_roundw
    case rel => exact ⟨q + 1, m, by omega, by go_num, Kp.mk (HT.out.put HR0.out)⟩
    case measure => simp [intOf]; omega
   ·obtain rfl : q = n := by omega
    obtain rfl : m = 0 := by omega
    have rj := Tryz.strings_Join g 0 q (l.map fun r => bs (textR r)) (bs [44]) wr (by have h := HT.out; rw [← HN.out] at h; exact h.cells) HT.out.lt (by rw [List.length_map, HN.out]; omega) (by rw [List.length_map, HN.out]; exact Nat.le_refl _) (by
     have e := join_txt l
     show (Lib.join _ [44]).length ≤ _
     rw [e]
     have h1 := HTL.out
     have h2 := HNL.out
     omega)
    rw [List.length_map, HN.out] at rj
    have e : Lib.join ((l.map fun r => bs (textR r)).map (·.data.toList)) (bs [44]).data.toList = txt l := join_txt l
    rw [e] at rj
    have RJ := Kp.mk rj
    clear rj e t0 h1 nl hlen
    go_wp2_with fail
    refine RJ.out.mono ?_
    rintro e y1 ⟨rfl, hb⟩
    have HB := Kp.mk (HT.out.below.trans (hb.mono HT.out.below.size))
    clear hb RJ
    go_wp2_with fail
    go_ret2
    exact ⟨rfl, HB.out⟩
end Go.Proofs.YtndjcmclmhoigaaGreatDoor
