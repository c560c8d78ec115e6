/-
 DERIVED. CONTRACTS of package ends (the developers' functions): Prev. Written by mken8.py, then split by hand.
 DERIVED. THE SWEEP over two run sets: ends by their rank, stretches of which each set has all ends or none, what is kept. No program.
-/
import Derived.Test.YtndjcmclmhoigaaGreatDoorPB6
import Derived.Test.YtndjcmclmhoigaaGreatDoorPA7
import Derived.Test.YtndjcmclmhoigaaGreatDoorPA6
namespace Go.Proofs.YtndjcmclmhoigaaGreatDoor
open Go.RowKit
set_option maxRecDepth 100000

theorem dPrev_isS {f d g e c : Int} (h : StepE false f d g e c) (d0 : -9223372036854775808 ≤ d) (d1 : d ≤ 9223372036854775807) (w : World) (hL : LaidEn w) :
 Calls Tryz.prog 159 #[.agg #[.int .i8 f, .int .i64 d], .int .i64 (-1)] w fun x w' => x = .returned (.tuple #[.agg #[.int .i8 g, .int .i64 e], .int .i64 c]) ∧ Below w.heap.size w w' := by
 by_cases h0 : chkE f d = 0
 ·by_cases h1 : f = 0
  ·subst h1
   by_cases h2 : d = -9223372036854775808
   ·obtain ⟨rfl, rfl, rfl⟩ := h.over rfl h2
    exact dStep_over d0 d1 (by decide) (by decide) (by omega) w hL
   ·obtain ⟨rfl, he, rfl⟩ := h.day rfl h2
    have he : e = d + (-1) := by rw [he]; simp; try omega
    subst he
    exact dStep_day d0 d1 (by decide) (by decide) (by omega) (by omega) w hL
  ·obtain ⟨rfl, rfl, rfl⟩ := h.inf h0 h1
   exact dStep_inf h0 h1 w hL
 ·obtain ⟨rfl, rfl, rfl⟩ := h.bad h0
  have h5 : chkE f d = 5 := by unfold chkE at h0 ⊢; split at h0 <;> first | omega | (rw [if_neg (by assumption)])
  exact dStep_bad h5 (by decide) w hL
set_option maxHeartbeats 1000000 in
theorem dPrev_is {f d g e c : Int} (h : StepE false f d g e c) (d0 : -9223372036854775808 ≤ d) (d1 : d ≤ 9223372036854775807) (w : World) (hL : LaidEn w) :
 Calls Tryz.prog 192 #[.agg #[.int .i8 f, .int .i64 d]] w fun x w' => x = .returned (.tuple #[.agg #[.int .i8 g, .int .i64 e], .int .i64 c]) ∧ Below w.heap.size w w' := by
 have HA := Kp.mk (eb_two w f d 0 0).1
 have HR : Kp (ERow w (w.heap.size + 1) 0 0 ((w.alloc (.cells #[.int .i8 f, .int .i64 d] 24)).alloc (.cells #[.int .i8 0, .int .i64 0] 24))) := Kp.mk (by
  have := erow_new 0 0 (eb_new f d 24 (Below.refl w.heap.size w)).below
  rw [World.size_alloc] at this
  exact this)
 have r1 := Kp.mk (fun v (hv : Below w.heap.size w v) => dPrev_isS h d0 d1 v (hL.below hv))
 clear h d0 d1 hL
 go_enter Tryz.func192, Tryz.ntmps192
 go_upto_region 1 with fail
 generalize (w.alloc (.cells #[.int .i8 f, .int .i64 d] 24)).alloc (.cells #[.int .i8 0, .int .i64 0] 24) = w0 at *
 have k0 := HA.out.c0
 have k1 := HA.out.c1
 go_wp2_with fail
 refine (r1.out _ HR.out.below).mono ?_
 rintro e' w1 ⟨rfl, hbl⟩
 have HA := Kp.mk (HA.out.step hbl)
 have HR := Kp.mk (HR.out.step hbl)
 clear hbl k0 k1
 have k0 := HA.out.c0
 have k1 := HA.out.c1
 go_wp2_with (first
  | refine wpList_store_row' rfl 24 (.tmp 2) (.tmp 6) rfl (w.heap.size + 1) #[.int .i8 g, .int .i64 e] rfl rfl 24 #[.int .i8 0, .int .i64 0] HR.out.heap infoEnd rfl (two_one _ _) ?_)
 refine bodyPost_ret (results_cell_tmp (p := 2) (ty := 24) rfl _ _ (w.heap.size + 1) 24 #[.int .i8 g, .int .i64 e] (0, 0) _ rfl (setRow_heap _ _ _ _ _ _ HR.out.heap) Tryz.underlying24 rfl infoEnd) rfl ?_
 exact ⟨rfl, below_setRow HR.out.below HR.out.base _⟩
end Go.Proofs.YtndjcmclmhoigaaGreatDoor
namespace Go.Proofs.YtndjcmclmhoigaaGreatDoor
set_option maxRecDepth 100000

/-- the rank of an end: infinities stand beside the least and the greatest day -/
def rk (f d : Int) : Int := if f = 0 then d else if f < 0 then -9223372036854775809 else 9223372036854775808
def eF (q : Int) : Int := if q < -9223372036854775808 then -1 else if 9223372036854775807 < q then 1 else 0
def eD (q : Int) : Int := if q < -9223372036854775808 then 0 else if 9223372036854775807 < q then 0 else q
def rlo (r : Rn) : Int := rk r.f r.d
def rhi (r : Rn) : Int := rk r.g r.e
def spR (p q : Int) : Rn := ⟨eF p, eD p, eF q, eD q⟩
theorem e_cases (q : Int) : (q < -9223372036854775808 ∧ eF q = -1 ∧ eD q = 0) ∨ (9223372036854775807 < q ∧ eF q = 1 ∧ eD q = 0) ∨ (-9223372036854775808 ≤ q ∧ q ≤ 9223372036854775807 ∧ eF q = 0 ∧ eD q = q) := by
 unfold eF eD
 by_cases h : q < -9223372036854775808
 ·rw [if_pos h, if_pos h]; omega
 ·rw [if_neg h, if_neg h]
  by_cases g : 9223372036854775807 < q
  ·rw [if_pos g, if_pos g]; omega
  ·rw [if_neg g, if_neg g]; omega
theorem rk_cases (f d : Int) : (f = 0 ∧ rk f d = d) ∨ (f < 0 ∧ rk f d = -9223372036854775809) ∨ (0 < f ∧ rk f d = 9223372036854775808) := by
 unfold rk
 by_cases h : f = 0
 ·rw [if_pos h]; omega
 ·rw [if_neg h]
  by_cases g : f < 0
  ·rw [if_pos g]; omega
  ·rw [if_neg g]; omega
theorem rk_e {q : Int} (h0 : -9223372036854775809 ≤ q) (h1 : q ≤ 9223372036854775808) : rk (eF q) (eD q) = q := by
 have a := e_cases q
 have b := rk_cases (eF q) (eD q)
 omega
theorem rlo_sp {p q : Int} (h0 : -9223372036854775809 ≤ p) (h1 : p ≤ 9223372036854775808) : rlo (spR p q) = p := rk_e h0 h1
theorem rhi_sp {p q : Int} (h0 : -9223372036854775809 ≤ q) (h1 : q ≤ 9223372036854775808) : rhi (spR p q) = q := rk_e h0 h1
theorem cmp_e {p q : Int} (p0 : -9223372036854775809 ≤ p) (p1 : p ≤ 9223372036854775808) (q0 : -9223372036854775809 ≤ q) (q1 : q ≤ 9223372036854775808) : cmpE (eF p) (eD p) (eF q) (eD q) = cmpI p q := by
 have a := e_cases p
 have b := e_cases q
 have := cmpE_le (eF p) (eD p) (eF q) (eD q)
 have := cmpE_zero (eF p) (eD p) (eF q) (eD q)
 have := cmpE_one (eF p) (eD p) (eF q) (eD q)
 rcases cmpI_cases p q with i | i | i <;> omega
/-- the ranks of a right run -/
theorem Rn.Ok.rks {r : Rn} (h : r.Ok) : -9223372036854775809 ≤ rlo r ∧ rlo r ≤ 9223372036854775807 ∧ -9223372036854775808 ≤ rhi r ∧ rhi r ≤ 9223372036854775808 ∧ rlo r ≤ rhi r ∧
 eF (rlo r) = r.f ∧ eD (rlo r) = r.d ∧ eF (rhi r) = r.g ∧ eD (rhi r) = r.e := by
 have a := rk_cases r.f r.d
 have b := rk_cases r.g r.e
 have c := e_cases (rlo r)
 have d := e_cases (rhi r)
 have := h.d0; have := h.d1; have := h.e0; have := h.e1
 have := h.lof; have := h.hif; have := h.le
 unfold rlo rhi at *
 omega
/-- the places of a right run, by its ranks -/
theorem Rn.Ok.plc {r : Rn} (h : r.Ok) : (rlo r = -9223372036854775809 ∧ r.lo = -18446744073709551616 ∨ -9223372036854775808 ≤ rlo r ∧ r.lo = rlo r) ∧ (rhi r = 9223372036854775808 ∧ r.hi = 18446744073709551616 ∨ rhi r ≤ 9223372036854775807 ∧ r.hi = rhi r) := by
 have p1 := h.pos.pl
 have p2 := h.pos.ph
 have a := rk_cases r.f r.d
 have b := rk_cases r.g r.e
 unfold rlo rhi
 omega
/-- a set has an end -/
def hasE (l : List Rn) (x : Int) : Bool := l.any fun r => decide (rlo r ≤ x ∧ x ≤ rhi r)
theorem mk_true {l : List Rn} {x : Int} : hasE l x = true ↔ ∃ r, r ∈ l ∧ rlo r ≤ x ∧ x ≤ rhi r := by
 unfold hasE
 rw [List.any_eq_true]
 exact ⟨fun ⟨r, h1, h2⟩ => ⟨r, h1, of_decide_eq_true h2⟩, fun ⟨r, h1, h2⟩ => ⟨r, h1, decide_eq_true h2⟩⟩
theorem mk_nil (x : Int) : hasE [] x = false := rfl
theorem mk_cons (r : Rn) (l : List Rn) (x : Int) : hasE (r :: l) x = (decide (rlo r ≤ x ∧ x ≤ rhi r) || hasE l x) := rfl
theorem mk_append (l m : List Rn) (x : Int) : hasE (l ++ m) x = (hasE l x || hasE m x) := by unfold hasE; rw [List.any_append]
/-- how many stretches a run can still end -/
def phi (q : Int) (r : Rn) : Nat := if rhi r < q then 0 else if rlo r ≤ q then 1 else 2
def Phi (q : Int) : List Rn → Nat
 | [] => 0
 | r :: t => phi q r + Phi q t
theorem phi_cases (q : Int) (r : Rn) : (rhi r < q ∧ phi q r = 0) ∨ (q ≤ rhi r ∧ rlo r ≤ q ∧ phi q r = 1) ∨ (q ≤ rhi r ∧ q < rlo r ∧ phi q r = 2) := by
 unfold phi
 by_cases h : rhi r < q
 ·rw [if_pos h]; omega
 ·rw [if_neg h]
  by_cases g : rlo r ≤ q
  ·rw [if_pos g]; omega
  ·rw [if_neg g]; omega
theorem Phi_le {q q' : Int} (h : q ≤ q') : ∀ l : List Rn, Phi q' l ≤ Phi q l
 | [] => Nat.le_refl _
 | r :: t => by
  have := Phi_le h t
  have a := phi_cases q r
  have b := phi_cases q' r
  show phi q' r + Phi q' t ≤ phi q r + Phi q t
  omega
theorem Phi_append (q : Int) : ∀ l m : List Rn, Phi q (l ++ m) = Phi q l + Phi q m
 | [], m => by show Phi q m = 0 + Phi q m; omega
 | r :: t, m => by show phi q r + Phi q (t ++ m) = phi q r + Phi q t + Phi q m; rw [Phi_append q t m]; omega
theorem Phi_top (q : Int) : ∀ l : List Rn, Phi q l ≤ 2 * l.length
 | [] => Nat.le_refl _
 | r :: t => by
  have := Phi_top q t
  have a := phi_cases q r
  show phi q r + Phi q t ≤ 2 * (t.length + 1)
  omega
theorem pw_mem {α : Type} {R : α → α → Prop} : ∀ {l : List α}, l.Pairwise R → ∀ {a b}, a ∈ l → b ∈ l → a = b ∨ R a b ∨ R b a
 | [], _, _, _, h, _ => by cases h
 | x :: t, hp, a, b, ha, hb => by
  obtain ⟨h1, h2⟩ := List.pairwise_cons.1 hp
  rcases List.mem_cons.1 ha with e | k
  ·subst e
   rcases List.mem_cons.1 hb with e | j
   ·exact .inl e.symm
   ·exact .inr (.inl (h1 b j))
  ·rcases List.mem_cons.1 hb with e | j
   ·subst e
    exact .inr (.inr (h1 a k))
   ·exact pw_mem h2 k j
/-- two runs of a right set, by their ranks -/
theorem rk_gap {a b : Rn} (ha : a.Ok) (hb : b.Ok) (h : a.hi + 1 < b.lo) : rhi a + 1 < rlo b := by
 have p := ha.plc
 have q := hb.plc
 have := ha.rks
 have := hb.rks
 omega
theorem gap_rk {a b : Rn} (ha : a.Ok) (hb : b.Ok) (h : rhi a + 1 < rlo b) : a.hi + 1 < b.lo := by
 have p := ha.plc
 have q := hb.plc
 have := ha.rks
 have := hb.rks
 omega
/-- what a set says of a stretch from an end on, its runs ahead of that end being dropped -/
def reachK : List Rn → Int → Bool
 | [], _ => false
 | r :: _, q => decide (rlo r ≤ q)
def reachQ : List Rn → Int → Int
 | [], _ => 9223372036854775808
 | r :: _, q => if q < rlo r then rlo r - 1 else rhi r
/-- runs ahead of an end, those from it on -/
structure Rest (l t : List Rn) (q : Int) : Prop where
 part : ∃ pre, l = pre ++ t ∧ ∀ r, r ∈ pre → rhi r < q
theorem Rest.start (l : List Rn) (q : Int) : Rest l l q := ⟨⟨[], rfl, fun _ h => (by cases h)⟩⟩
theorem Rest.more {l t : List Rn} {q q' : Int} (h : Rest l t q) (hq : q ≤ q') : Rest l t q' := by
 obtain ⟨pre, h1, h2⟩ := h.part
 exact ⟨⟨pre, h1, fun r hr => Int.lt_of_lt_of_le (h2 r hr) hq⟩⟩
theorem Rest.next {l t : List Rn} {r : Rn} {q : Int} (h : Rest l (r :: t) q) (hr : rhi r < q) : Rest l t q := by
 obtain ⟨pre, h1, h2⟩ := h.part
 refine ⟨⟨pre ++ [r], by rw [h1, List.append_assoc]; rfl, fun x hx => ?_⟩⟩
 rcases List.mem_append.1 hx with hx | hx
 ·exact h2 x hx
 ·rw [List.mem_singleton.1 hx]; exact hr
theorem Rest.can {l t : List Rn} {q : Int} (h : Rest l t q) (hc : RsCan l) : RsCan t := by
 obtain ⟨pre, rfl, _⟩ := h.part
 exact ⟨fun r hr => hc.ok r (List.mem_append.2 (.inr hr)), (List.pairwise_append.1 hc.gap).2.1⟩
theorem Rest.same {l t : List Rn} {q x : Int} (h : Rest l t q) (hx : q ≤ x) : hasE l x = hasE t x := by
 obtain ⟨pre, rfl, h2⟩ := h.part
 rw [mk_append]
 have : hasE pre x = false := by
  rw [Bool.eq_false_iff]
  intro hn
  obtain ⟨r, hr, h3⟩ := mk_true.1 hn
  have := h2 r hr
  omega
 rw [this, Bool.false_or]
theorem Phi_zero {q : Int} : ∀ {l : List Rn}, (∀ r, r ∈ l → rhi r < q) → Phi q l = 0
 | [], _ => rfl
 | r :: t, h => by
  have a := phi_cases q r
  have := h r (by simp)
  have := Phi_zero (fun x hx => h x (List.mem_cons.2 (.inr hx)))
  show phi q r + Phi q t = 0
  omega
theorem Rest.phi {l t : List Rn} {q x : Int} (h : Rest l t q) (hx : q ≤ x) : Phi x l = Phi x t := by
 obtain ⟨pre, rfl, h2⟩ := h.part
 rw [Phi_append, Phi_zero (fun r hr => Int.lt_of_lt_of_le (h2 r hr) hx), Nat.zero_add]
/-- the runs ahead of an end are dropped -/
def Head (t : List Rn) (q : Int) : Prop := ∀ r u, t = r :: u → q ≤ rhi r
theorem head_nil (q : Int) : Head [] q := fun _ _ h => by cases h
theorem head_cons {r : Rn} {t : List Rn} {q : Int} (h : q ≤ rhi r) : Head (r :: t) q := fun _ _ e => by injection e with e _; exact e ▸ h
theorem reach_is {l t : List Rn} {q : Int} (hc : RsCan l) (h : Rest l t q) (hh : Head t q) (q1 : q ≤ 9223372036854775808) :
 q ≤ reachQ t q ∧ reachQ t q ≤ 9223372036854775808 ∧ (∀ x, q ≤ x → x ≤ reachQ t q → hasE l x = reachK t q) ∧ (reachQ t q < 9223372036854775808 → Phi (reachQ t q + 1) l < Phi q l) := by
 have ct := h.can hc
 cases t with
 | nil => exact ⟨q1, Int.le_refl _, fun x hx _ => by rw [h.same hx]; rfl, fun e => absurd e (by show ¬ (9223372036854775808 : Int) < 9223372036854775808; decide)⟩
 | cons r u =>
  have hr := hh r u rfl
  obtain ⟨c1, c2, c3⟩ := rsc_cons.1 ct
  have k := c1.rks
  have up : ∀ x, x ≤ rhi r → hasE u x = false := fun x hx => by
   rw [Bool.eq_false_iff]
   intro hn
   obtain ⟨s, hs, h3⟩ := mk_true.1 hn
   have := rk_gap c1 (c3.ok s hs) (c2 s hs)
   omega
  by_cases hl : q < rlo r
  ·have e1 : reachQ (r :: u) q = rlo r - 1 := if_pos hl
   have e2 : reachK (r :: u) q = false := decide_eq_false (by omega)
   rw [e1, e2]
   refine ⟨by omega, by omega, fun x h1 h2 => ?_, fun _ => ?_⟩
   ·rw [h.same h1, mk_cons, up x (by omega), decide_eq_false (by omega)]; rfl
   ·rw [h.phi (x := rlo r - 1 + 1) (by omega), h.phi (x := q) (by omega)]
    show phi (rlo r - 1 + 1) r + Phi (rlo r - 1 + 1) u < phi q r + Phi q u
    have a := phi_cases q r
    have b := phi_cases (rlo r - 1 + 1) r
    have := Phi_le (q := q) (q' := rlo r - 1 + 1) (by omega) u
    omega
  ·have e1 : reachQ (r :: u) q = rhi r := if_neg hl
   have e2 : reachK (r :: u) q = true := decide_eq_true (by omega)
   rw [e1, e2]
   refine ⟨hr, by omega, fun x h1 h2 => ?_, fun _ => ?_⟩
   ·rw [h.same h1, mk_cons, decide_eq_true (by omega)]; rfl
   ·rw [h.phi (x := rhi r + 1) (by omega), h.phi (x := q) (by omega)]
    show phi (rhi r + 1) r + Phi (rhi r + 1) u < phi q r + Phi q u
    have a := phi_cases q r
    have b := phi_cases (rhi r + 1) r
    have := Phi_le (q := q) (q' := rhi r + 1) (by omega) u
    omega
/-- what has been kept ahead of an end -/
structure Sw (K : Int → Bool) (q : Int) (bf : Bool) (ls : List Rn) : Prop where
 sp : ∀ r, r ∈ ls → ∃ p s, r = spR p s ∧ -9223372036854775809 ≤ p ∧ p ≤ s ∧ s < q
 gap : ls.Pairwise fun a b => rhi a + 1 < rlo b
 mem : ∀ x, hasE ls x = true ↔ (-9223372036854775809 ≤ x ∧ x < q ∧ K x = true)
 lst : bf = true → ∃ a p, ls = a ++ [spR p (q - 1)] ∧ -9223372036854775809 ≤ p ∧ p ≤ q - 1
 non : bf = false → ∀ r, r ∈ ls → rhi r + 1 < q
variable {K : Int → Bool} {q tq : Int} {bf : Bool} {ls a : List Rn}
theorem sw_start : Sw K (-9223372036854775809) false [] :=
 ⟨fun _ h => (by cases h), List.Pairwise.nil, fun x => ⟨fun h => (by rw [mk_nil] at h; cases h), fun h => (by omega)⟩, fun h => (by cases h), fun _ _ h => (by cases h)⟩
theorem Sw.skip (h : Sw K q bf ls) (h1 : q ≤ tq) (hk : ∀ x, q ≤ x → x ≤ tq → K x = false) (q1 : q ≤ 9223372036854775809) : Sw K (tq + 1) false ls := by
 refine ⟨fun r hr => ?_, h.gap, fun x => ?_, (fun e => by cases e), fun _ r hr => ?_⟩
 ·obtain ⟨p, s, e, b1, b2, b3⟩ := h.sp r hr
  exact ⟨p, s, e, b1, b2, by omega⟩
 ·rw [h.mem x]
  constructor
  ·intro hx; exact ⟨hx.1, by omega, hx.2.2⟩
  ·intro hx
   by_cases c : x < q
   ·exact ⟨hx.1, c, hx.2.2⟩
   ·have := hk x (by omega) (by omega)
    rw [this] at hx
    exact absurd hx.2.2 (by decide)
 ·obtain ⟨p, s, rfl, b1, b2, b3⟩ := h.sp r hr
  rw [rhi_sp (by omega) (by omega)]
  omega
theorem mk_one {r : Rn} {x : Int} : hasE [r] x = decide (rlo r ≤ x ∧ x ≤ rhi r) := by rw [mk_cons, mk_nil, Bool.or_false]
theorem Sw.add (h : Sw K q false ls) (q0 : -9223372036854775809 ≤ q) (h1 : q ≤ tq) (t1 : tq ≤ 9223372036854775808) (hk : ∀ x, q ≤ x → x ≤ tq → K x = true) : Sw K (tq + 1) true (ls ++ [spR q tq]) := by
 have l1 : rlo (spR q tq) = q := rlo_sp q0 (by omega)
 have l2 : rhi (spR q tq) = tq := rhi_sp (by omega) t1
 refine ⟨fun r hr => ?_, List.pairwise_append.2 ⟨h.gap, List.pairwise_singleton _ _, fun x hx y hy => ?_⟩, fun x => ?_, fun _ => ⟨ls, q, ?_, q0, by omega⟩, fun e => by cases e⟩
 ·rcases List.mem_append.1 hr with hr | hr
  ·obtain ⟨p, s, e, b1, b2, b3⟩ := h.sp r hr
   exact ⟨p, s, e, b1, b2, by omega⟩
  ·exact ⟨q, tq, List.mem_singleton.1 hr, q0, h1, by omega⟩
 ·rw [List.mem_singleton.1 hy, l1]
  exact h.non rfl x hx
 ·rw [mk_append, mk_one, Bool.or_eq_true, h.mem x, decide_eq_true_iff, l1, l2]
  constructor
  ·rintro (c | c)
   ·exact ⟨c.1, by omega, c.2.2⟩
   ·exact ⟨by omega, by omega, hk x c.1 c.2⟩
  ·intro c
   by_cases e : x < q
   ·exact .inl ⟨c.1, e, c.2.2⟩
   ·exact .inr ⟨by omega, by omega⟩
 ·rw [show tq + 1 - 1 = tq by omega]
theorem Sw.grow {p : Int} (h : Sw K q true (a ++ [spR p (q - 1)])) (p0 : -9223372036854775809 ≤ p) (pq : p ≤ q - 1) (h1 : q ≤ tq) (t1 : tq ≤ 9223372036854775808) (hk : ∀ x, q ≤ x → x ≤ tq → K x = true) : Sw K (tq + 1) true (a ++ [spR p tq]) := by
 have l1 : rlo (spR p tq) = p := rlo_sp p0 (by omega)
 have l2 : rhi (spR p tq) = tq := rhi_sp (by omega) t1
 have l3 : rlo (spR p (q - 1)) = p := rlo_sp p0 (by omega)
 have l4 : rhi (spR p (q - 1)) = q - 1 := rhi_sp (by omega) (by omega)
 obtain ⟨g1, _, g3⟩ := List.pairwise_append.1 h.gap
 refine ⟨fun r hr => ?_, List.pairwise_append.2 ⟨g1, List.pairwise_singleton _ _, fun x hx y hy => ?_⟩, fun x => ?_, fun _ => ⟨a, p, ?_, p0, by omega⟩, fun e => by cases e⟩
 ·rcases List.mem_append.1 hr with hr | hr
  ·obtain ⟨p, s, e, b1, b2, b3⟩ := h.sp r (List.mem_append.2 (.inl hr))
   exact ⟨p, s, e, b1, b2, by omega⟩
  ·exact ⟨p, tq, List.mem_singleton.1 hr, p0, by omega, by omega⟩
 ·have := g3 x hx _ (List.mem_singleton.2 rfl)
  rw [List.mem_singleton.1 hy, l1]
  rw [l3] at this
  exact this
 ·have hm := h.mem x
  rw [mk_append, mk_one, Bool.or_eq_true, decide_eq_true_iff, l3, l4] at hm
  rw [mk_append, mk_one, Bool.or_eq_true, decide_eq_true_iff, l1, l2]
  constructor
  ·rintro (c | c)
   ·have := hm.1 (.inl c)
    exact ⟨this.1, by omega, this.2.2⟩
   ·by_cases e : x < q
    ·have := hm.1 (.inr ⟨c.1, by omega⟩)
     exact ⟨this.1, by omega, this.2.2⟩
    ·exact ⟨by omega, by omega, hk x (by omega) c.2⟩
  ·intro c
   by_cases e : x < q
   ·rcases hm.2 ⟨c.1, e, c.2.2⟩ with k | k
    ·exact .inl k
    ·exact .inr ⟨k.1, by omega⟩
   ·exact .inr ⟨by omega, by omega⟩
 ·rw [show tq + 1 - 1 = tq by omega]
theorem Sw.flag (h : Sw K q true ls) : ∃ a p, ls = a ++ [spR p (q - 1)] ∧ -9223372036854775809 ≤ p ∧ p ≤ q - 1 := h.lst rfl
/-- the runs among what has been kept -/
def cleanN (l : List Rn) : List Rn := l.filter fun r => decide (chkR r = 0)
theorem spR_in (p s : Int) : (spR p s).In := by
 have a := e_cases p
 have b := e_cases s
 exact ⟨by show _ ≤ eD p; omega, by show eD p ≤ _; omega, by show _ ≤ eD s; omega, by show eD s ≤ _; omega⟩
theorem spR_ok {p s : Int} (h : p ≤ s) : chkR (spR p s) = 0 ↔ p ≤ 9223372036854775807 ∧ -9223372036854775808 ≤ s := by
 rw [chkR_zero (spR_in p s)]
 have a := e_cases p
 have b := e_cases s
 constructor
 ·intro k
  have c1 : eF p = 0 ∨ eF p = -1 ∧ eD p = 0 := k.lof
  have c2 : eF s = 0 ∨ eF s = 1 ∧ eD s = 0 := k.hif
  omega
 ·intro k
  refine { spR_in p s with lof := ?_, hif := ?_, le := ?_ }
  ·show eF p = 0 ∨ eF p = -1 ∧ eD p = 0
   omega
  ·show eF s = 0 ∨ eF s = 1 ∧ eD s = 0
   omega
  ·show eF p = 0 → eF s = 0 → eD p ≤ eD s
   omega
/-- the places of what is kept -/
def SK (K : Int → Bool) (x : Int) : Prop :=
 (-9223372036854775808 ≤ x ∧ x ≤ 9223372036854775807 ∧ K x = true) ∨
 (-18446744073709551616 ≤ x ∧ x < -9223372036854775808 ∧ K (-9223372036854775809) = true ∧ K (-9223372036854775808) = true) ∨
 (9223372036854775807 < x ∧ x ≤ 18446744073709551616 ∧ K 9223372036854775808 = true ∧ K 9223372036854775807 = true)
theorem Sw.clean (h : Sw K 9223372036854775809 bf ls) : IsRs (cleanN ls) (SK K) := by
 have ok : ∀ r, r ∈ cleanN ls → r ∈ ls ∧ r.Ok := fun r hr => by
  obtain ⟨h1, h2⟩ := List.mem_filter.1 hr
  obtain ⟨p, s, rfl, _⟩ := h.sp r h1
  exact ⟨h1, (chkR_zero (spR_in p s)).1 (of_decide_eq_true h2)⟩
 refine ⟨⟨fun r hr => (ok r hr).2, ?_⟩, fun x => ?_⟩
 ·refine List.Pairwise.imp_of_mem (fun {a b} ha hb hab => ?_) (List.Pairwise.sublist List.filter_sublist h.gap)
  exact gap_rk (ok a ha).2 (ok b hb).2 hab
 ·constructor
  ·rintro ⟨r, hr, h1, h2⟩
   obtain ⟨hm, hok⟩ := ok r hr
   have e := hok.plc
   have k := hok.rks
   have all : ∀ y, rlo r ≤ y → y ≤ rhi r → K y = true := fun y y1 y2 => ((h.mem y).1 (mk_true.2 ⟨r, hm, y1, y2⟩)).2.2
   by_cases c1 : x < -9223372036854775808
   ·exact .inr (.inl ⟨by omega, c1, all _ (by omega) (by omega), all _ (by omega) (by omega)⟩)
   ·by_cases c2 : 9223372036854775807 < x
    ·exact .inr (.inr ⟨c2, by omega, all _ (by omega) (by omega), all _ (by omega) (by omega)⟩)
    ·exact .inl ⟨by omega, by omega, all _ (by omega) (by omega)⟩
  ·have key : ∀ y z, -9223372036854775809 ≤ y → y ≤ z → z ≤ y + 1 → z ≤ 9223372036854775808 → K y = true → K z = true → ∃ r, r ∈ ls ∧ (∃ p s, r = spR p s ∧ p ≤ s ∧ -9223372036854775809 ≤ p ∧ s ≤ 9223372036854775808) ∧ rlo r ≤ y ∧ z ≤ rhi r := by
    intro y z y0 yz zy z1 ky kz
    obtain ⟨r1, m1, a1, a2⟩ := mk_true.1 ((h.mem y).2 ⟨y0, by omega, ky⟩)
    obtain ⟨r2, m2, b1, b2⟩ := mk_true.1 ((h.mem z).2 ⟨by omega, by omega, kz⟩)
    have hsp := h.sp r1 m1
    rcases pw_mem h.gap m1 m2 with e | e | e
    ·subst e
     obtain ⟨p, s, e1, e2, e3, e4⟩ := hsp
     exact ⟨r1, m1, ⟨p, s, e1, e3, e2, by omega⟩, a1, b2⟩
    ·omega
    ·omega
   have fin : ∀ r y z, r ∈ ls → (∃ p s, r = spR p s ∧ p ≤ s ∧ -9223372036854775809 ≤ p ∧ s ≤ 9223372036854775808) → rlo r ≤ y → z ≤ rhi r → y ≤ 9223372036854775807 → -9223372036854775808 ≤ z → r ∈ cleanN ls ∧ r.Ok := by
    rintro r y z hm ⟨p, s, rfl, e1, e2, e3⟩ h1 h2 h3 h4
    rw [rlo_sp (by omega) (by omega)] at h1
    rw [rhi_sp (by omega) (by omega)] at h2
    have c := (spR_ok e1).2 ⟨by omega, by omega⟩
    exact ⟨List.mem_filter.2 ⟨hm, decide_eq_true c⟩, (chkR_zero (spR_in p s)).1 c⟩
   rintro (⟨x0, x1, kx⟩ | ⟨x0, x1, k1, k2⟩ | ⟨x0, x1, k1, k2⟩)
   ·obtain ⟨r, hm, hs, h1, h2⟩ := key x x (by omega) (by omega) (by omega) (by omega) kx kx
    obtain ⟨g1, g2⟩ := fin r x x hm hs h1 h2 x1 x0
    have e := g2.plc
    exact ⟨r, g1, by omega, by omega⟩
   ·obtain ⟨r, hm, hs, h1, h2⟩ := key (-9223372036854775809) (-9223372036854775808) (by omega) (by omega) (by omega) (by omega) k1 k2
    obtain ⟨g1, g2⟩ := fin r _ _ hm hs h1 h2 (by omega) (by omega)
    have e := g2.plc
    exact ⟨r, g1, by omega, by omega⟩
   ·obtain ⟨r, hm, hs, h1, h2⟩ := key 9223372036854775807 9223372036854775808 (by omega) (by omega) (by omega) (by omega) k2 k1
    obtain ⟨g1, g2⟩ := fin r _ _ hm hs h1 h2 (by omega) (by omega)
    have e := g2.plc
    exact ⟨r, g1, by omega, by omega⟩
/-- the places of a right set, by its ends -/
theorem mem_mk {l : List Rn} (hc : RsCan l) (x : Int) : memR l x ↔ SK (hasE l) x := by
 have step : ∀ r, r ∈ l → (r.has x ↔ (-9223372036854775808 ≤ x ∧ x ≤ 9223372036854775807 ∧ rlo r ≤ x ∧ x ≤ rhi r) ∨ (-18446744073709551616 ≤ x ∧ x < -9223372036854775808 ∧ rlo r = -9223372036854775809) ∨ (9223372036854775807 < x ∧ x ≤ 18446744073709551616 ∧ rhi r = 9223372036854775808)) := fun r hr => by
  have o := hc.ok r hr
  have e := o.plc
  have k := o.rks
  unfold Rn.has
  omega
 constructor
 ·rintro ⟨r, hr, hx⟩
  have k := (hc.ok r hr).rks
  rcases (step r hr).1 hx with c | c | c
  ·exact .inl ⟨c.1, c.2.1, mk_true.2 ⟨r, hr, c.2.2⟩⟩
  ·exact .inr (.inl ⟨c.1, c.2.1, mk_true.2 ⟨r, hr, by omega, by omega⟩, mk_true.2 ⟨r, hr, by omega, by omega⟩⟩)
  ·exact .inr (.inr ⟨c.1, c.2.1, mk_true.2 ⟨r, hr, by omega, by omega⟩, mk_true.2 ⟨r, hr, by omega, by omega⟩⟩)
 ·rintro (⟨x0, x1, kx⟩ | ⟨x0, x1, k1, _⟩ | ⟨x0, x1, k1, _⟩)
  ·obtain ⟨r, hr, h⟩ := mk_true.1 kx
   exact ⟨r, hr, (step r hr).2 (.inl ⟨x0, x1, h⟩)⟩
  ·obtain ⟨r, hr, h⟩ := mk_true.1 k1
   have k := (hc.ok r hr).rks
   exact ⟨r, hr, (step r hr).2 (.inr (.inl ⟨x0, x1, by omega⟩))⟩
  ·obtain ⟨r, hr, h⟩ := mk_true.1 k1
   have k := (hc.ok r hr).rks
   exact ⟨r, hr, (step r hr).2 (.inr (.inr ⟨x0, x1, by omega⟩))⟩
theorem mk_low {l : List Rn} (hc : RsCan l) (h : hasE l (-9223372036854775809) = true) : hasE l (-9223372036854775808) = true := by
 obtain ⟨r, hr, h⟩ := mk_true.1 h
 have k := (hc.ok r hr).rks
 exact mk_true.2 ⟨r, hr, by omega, by omega⟩
theorem mk_high {l : List Rn} (hc : RsCan l) (h : hasE l 9223372036854775808 = true) : hasE l 9223372036854775807 = true := by
 obtain ⟨r, hr, h⟩ := mk_true.1 h
 have k := (hc.ok r hr).rks
 exact mk_true.2 ⟨r, hr, by omega, by omega⟩
variable {l m : List Rn}
theorem sk_or (hl : RsCan l) (hm : RsCan m) (x : Int) : SK (fun x => hasE l x || hasE m x) x ↔ memR l x ∨ memR m x := by
 have a1 := mk_low hl; have a2 := mk_low hm; have a3 := mk_high hl; have a4 := mk_high hm
 rw [mem_mk hl, mem_mk hm]
 unfold SK
 simp only [Bool.or_eq_true]
 constructor
 ·rintro (⟨h0, h1, h2 | h2⟩ | ⟨h0, h1, h2 | h2, _⟩ | ⟨h0, h1, h2 | h2, _⟩)
  ·exact .inl (.inl ⟨h0, h1, h2⟩)
  ·exact .inr (.inl ⟨h0, h1, h2⟩)
  ·exact .inl (.inr (.inl ⟨h0, h1, h2, a1 h2⟩))
  ·exact .inr (.inr (.inl ⟨h0, h1, h2, a2 h2⟩))
  ·exact .inl (.inr (.inr ⟨h0, h1, h2, a3 h2⟩))
  ·exact .inr (.inr (.inr ⟨h0, h1, h2, a4 h2⟩))
 ·rintro ((⟨h0, h1, h2⟩ | ⟨h0, h1, h2, h3⟩ | ⟨h0, h1, h2, h3⟩) | (⟨h0, h1, h2⟩ | ⟨h0, h1, h2, h3⟩ | ⟨h0, h1, h2, h3⟩))
  ·exact .inl ⟨h0, h1, .inl h2⟩
  ·exact .inr (.inl ⟨h0, h1, .inl h2, .inl h3⟩)
  ·exact .inr (.inr ⟨h0, h1, .inl h2, .inl h3⟩)
  ·exact .inl ⟨h0, h1, .inr h2⟩
  ·exact .inr (.inl ⟨h0, h1, .inr h2, .inr h3⟩)
  ·exact .inr (.inr ⟨h0, h1, .inr h2, .inr h3⟩)
theorem sk_and (hl : RsCan l) (hm : RsCan m) (x : Int) : SK (fun x => hasE l x && hasE m x) x ↔ memR l x ∧ memR m x := by
 rw [mem_mk hl, mem_mk hm]
 unfold SK
 simp only [Bool.and_eq_true]
 constructor
 ·rintro (⟨h0, h1, h2, h3⟩ | ⟨h0, h1, ⟨h2, h3⟩, h4, h5⟩ | ⟨h0, h1, ⟨h2, h3⟩, h4, h5⟩)
  ·exact ⟨.inl ⟨h0, h1, h2⟩, .inl ⟨h0, h1, h3⟩⟩
  ·exact ⟨.inr (.inl ⟨h0, h1, h2, h4⟩), .inr (.inl ⟨h0, h1, h3, h5⟩)⟩
  ·exact ⟨.inr (.inr ⟨h0, h1, h2, h4⟩), .inr (.inr ⟨h0, h1, h3, h5⟩)⟩
 ·rintro ⟨⟨h0, h1, h2⟩ | ⟨h0, h1, h2, h3⟩ | ⟨h0, h1, h2, h3⟩, ⟨g0, g1, g2⟩ | ⟨g0, g1, g2, g3⟩ | ⟨g0, g1, g2, g3⟩⟩
  ·exact .inl ⟨h0, h1, h2, g2⟩
  ·exfalso; omega
  ·exfalso; omega
  ·exfalso; omega
  ·exact .inr (.inl ⟨h0, h1, ⟨h2, g2⟩, h3, g3⟩)
  ·exfalso; omega
  ·exfalso; omega
  ·exfalso; omega
  ·exact .inr (.inr ⟨h0, h1, ⟨h2, g2⟩, h3, g3⟩)
theorem sk_less (hl : RsCan l) (hm : RsCan m) (x : Int) : SK (fun x => hasE l x && !hasE m x) x ↔ memR l x ∧ leftM m x := by
 have a1 := mk_low hl; have a3 := mk_high hl
 unfold leftM
 rw [mem_mk hl, mem_mk hm, mem_mk hm, mem_mk hm]
 unfold SK
 simp only [Bool.and_eq_true, Bool.not_eq_true']
 constructor
 ·rintro (⟨h0, h1, h2, h3⟩ | ⟨h0, h1, ⟨h2, h3⟩, h4, h5⟩ | ⟨h0, h1, ⟨h2, h3⟩, h4, h5⟩)
  ·refine ⟨.inl ⟨h0, h1, h2⟩, ?_, fun c => absurd c (by omega), fun c => absurd c (by omega)⟩
   rintro (⟨_, _, q⟩ | ⟨_, c, _⟩ | ⟨c, _⟩)
   ·rw [h3] at q; cases q
   ·omega
   ·omega
  ·refine ⟨.inr (.inl ⟨h0, h1, h2, h4⟩), ?_, fun _ => ?_, fun c => absurd c (by omega)⟩
   ·rintro (⟨c, _⟩ | ⟨_, _, q, _⟩ | ⟨c, _⟩)
    ·omega
    ·rw [h3] at q; cases q
    ·omega
   ·rintro (⟨_, _, q⟩ | ⟨_, c, _⟩ | ⟨c, _⟩)
    ·rw [h5] at q; cases q
    ·omega
    ·omega
  ·refine ⟨.inr (.inr ⟨h0, h1, h2, h4⟩), ?_, fun c => absurd c (by omega), fun _ => ?_⟩
   ·rintro (⟨_, c, _⟩ | ⟨_, c, _⟩ | ⟨_, _, q, _⟩)
    ·omega
    ·omega
    ·rw [h3] at q; cases q
   ·rintro (⟨_, _, q⟩ | ⟨_, c, _⟩ | ⟨c, _⟩)
    ·rw [h5] at q; cases q
    ·omega
    ·omega
 ·rintro ⟨⟨h0, h1, h2⟩ | ⟨h0, h1, h2, h3⟩ | ⟨h0, h1, h2, h3⟩, n1, n2, n3⟩
  ·refine .inl ⟨h0, h1, h2, ?_⟩
   rw [Bool.eq_false_iff]
   exact fun q => n1 (.inl ⟨h0, h1, q⟩)
  ·have z : hasE m (-9223372036854775808) = false := by
    rw [Bool.eq_false_iff]
    exact fun q => n2 h1 (.inl ⟨by omega, by omega, q⟩)
   have z2 : hasE m (-9223372036854775809) = false := by
    rw [Bool.eq_false_iff]
    intro q
    rw [mk_low hm q] at z
    cases z
   exact .inr (.inl ⟨h0, h1, ⟨h2, z2⟩, h3, z⟩)
  ·have z : hasE m 9223372036854775807 = false := by
    rw [Bool.eq_false_iff]
    exact fun q => n3 h0 (.inl ⟨by omega, by omega, q⟩)
   have z2 : hasE m 9223372036854775808 = false := by
    rw [Bool.eq_false_iff]
    intro q
    rw [mk_high hm q] at z
    cases z
   exact .inr (.inr ⟨h0, h1, ⟨h2, z2⟩, h3, z⟩)
end Go.Proofs.YtndjcmclmhoigaaGreatDoor
