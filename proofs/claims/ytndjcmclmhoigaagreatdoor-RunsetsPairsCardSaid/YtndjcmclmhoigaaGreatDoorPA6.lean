/-
 DERIVED. CONTRACTS of the reference of layer 10 (runsets): all, Of.
 DERIVED. CONTRACTS of the reference of layer 10 (runsets): both, short, Has, Same. Written by mkrsrefb.py.
 DERIVED. When a list of runs is a right run set: the reference's Check. No program but for its answer.
 DERIVED. CONTRACTS of the reference of layer 10 (runsets): Union.
-/
import Derived.Test.YtndjcmclmhoigaaGreatDoorPRsRefP
import Derived.Test.YtndjcmclmhoigaaGreatDoorPRsRef
namespace Go.Proofs.YtndjcmclmhoigaaGreatDoor
open Go.RowKit
set_option maxRecDepth 100000

variable {w W W' : World} {a : Option Addr} {l : List Rn}
theorem Lr.now {w W : World} (h : Lr w a l W) : Lr W a l W := ⟨Below.refl _ _, h.at4⟩
theorem lr_nil (hb : Below w.heap.size w W) : Lr w a [] W := ⟨hb, fun p r h => by simp at h⟩
theorem take_mem {p : Nat} {r : Rn} (hr : l[p]? = some r) (x : Int) : (memR (l.take p) x ∨ r.has x) ↔ memR (l.take (p + 1)) x := by
 rw [List.take_add_one, hr, memR_append]
 show _ ↔ memR (l.take p) x ∨ memR [r] x
 rw [memR_cons]
 constructor
 ·rintro (h | h)
  ·exact .inl h
  ·exact .inr (.inl h)
 ·rintro (h | h | h)
  ·exact .inl h
  ·exact .inr h
  ·exact absurd h (memR_nil x)
set_option maxHeartbeats 4000000 in
theorem refSAll_is {cap : Nat} (hok : ∀ r, r ∈ l → r.Ok) (hn : l.length ≤ 100000000) (al : Lr w a l w) :
 Calls Tryz.prog 108 #[.slice a l.length cap] w fun x w' =>
  (∃ m b p, x = .returned (.slice b (List.length m) p) ∧ IsRs m (memR l) ∧ m.length ≤ l.length ∧ Lr w b m w') ∧ Below w.heap.size w w' := by
 have HL := Kp.mk al
 have HO := Kp.mk hok
 have HD : Kp (IsRs [] (memR (l.take 0))) := Kp.mk ⟨rsc_nil, fun x => Iff.rfl⟩
 clear hok al
 obtain ⟨n, hnn⟩ : ∃ n, l.length = n := ⟨_, rfl⟩
 rw [hnn] at hn ⊢
 go_enter Tryz.func108, Tryz.ntmps108
 go_wp2_with fail
 go_loopw [3, 4] (fun v i wr => ∃ (p : Nat) (ms : List Rn) (b : Option Addr) (c : Nat), p ≤ n ∧ i = .int .i64 (p : Int) ∧ v = .slice b ms.length c ∧ ms.length ≤ p ∧ Kp (IsRs ms (memR (l.take p))) ∧ Kp (Lr w a l wr) ∧ Kp (Lr w b ms wr)) (fun _ i _ => n - (intOf i).toNat)
 case atStart => exact ⟨0, [], none, 0, by omega, rfl, rfl, by simp, HD, HL, ⟨lr_nil HL.out.below⟩⟩
 case round =>
  obtain ⟨p, ms, b, c, hp, rfl, rfl, hlen, HD, HL, HM⟩ := hrel
  by_cases h1 : p < n
  ·have t1 : decide ((p : Int) < (n : Int)) = true := decide_eq_true (by omega)
   have b1 : (p : Int) < (n : Int) := by omega
   obtain ⟨r, hr⟩ : ∃ r, l[p]? = some r := ⟨l[p]'(by omega), List.getElem?_eq_getElem (by omega)⟩
   obtain ⟨g, s, rfl⟩ := HL.out.place hr
   have hro := HO.out r (List.mem_of_getElem? hr)
   have wp1 : IntKind.i64.wrap ((p : Int) + 1) = (p : Int) + 1 := IntWalk.i64_in _ (by omega)
   have rp := Kp.mk (refSPut_is (cap := c) HD.out.can hro (by omega) HM.out.now)
   obtain ⟨k0, k1, k2, k3⟩ := HL.out.cells hr
   clear hro
   go_wp2_with fail
   refine rp.out.mono ?_
   rintro e v1 ⟨⟨m2, b2, p2, rfl, hm, hlen2, hlr⟩, hbl⟩
   have HL := Kp.mk (HL.out.step hbl)
   have HM : Kp (Lr w b2 m2 v1) := Kp.mk ⟨HL.out.below, hlr.at4⟩
   have HD : Kp (IsRs m2 (memR (l.take (p + 1)))) := Kp.mk (hm.congr (fun x => Iff.trans (or_congr (HD.out.mem x) Iff.rfl) (take_mem hr x)))
   have hlen3 : m2.length ≤ p + 1 := by omega
   clear hbl hlr hm hlen2 rp k0 k1 k2 k3
   go_wp2_with fail
   go_roundw
   case rel => exact ⟨p + 1, m2, b2, p2, by omega, by go_num, rfl, hlen3, HD, HL, HM⟩
   case measure => simp [intOf]; omega
  ·obtain rfl : p = n := by omega
   have hd := HD.out
   rw [List.take_of_length_le (by omega)] at hd
   have HD := Kp.mk hd
   clear hd
   go_wp2_with fail
   go_ret
   exact ⟨⟨ms, b, c, rfl, HD.out, hlen, HM.out⟩, HL.out.below⟩
/-- the first error of some runs -/
def frsR : List Rn → Int
 | [] => 0
 | r :: t => if chkR r = 0 then frsR t else chkR r
def ofRs (l : List Rn) : Int := if 4096 < l.length then 3 else frsR l
theorem ok_all {p : Nat} (h : OkTo l p) (hp : l.length ≤ p) : ∀ r, r ∈ l → r.Ok := fun r hr => by
 obtain ⟨j, hj, e⟩ := List.mem_iff_getElem.1 hr
 exact h r j (by omega) (by rw [List.getElem?_eq_getElem hj, e])
set_option maxHeartbeats 4000000 in
theorem refSOf_is {cap : Nat} {c : Int} (hin : ∀ r, r ∈ l → r.In) (hn : l.length ≤ maxLen) (hc : ofRs l = c) (al : Lr w a l w) :
 Calls Tryz.prog 44 #[.slice a l.length cap] w fun x w' =>
  (∃ m b p, x = .returned (.tuple #[.slice b (List.length m) p, .int .i64 c]) ∧ (c = 0 → IsRs m (memR l) ∧ m.length ≤ l.length) ∧ (¬ c = 0 → m = []) ∧ Lr w b m w') ∧ Below w.heap.size w w' := by
 have HL := Kp.mk al
 have HI := Kp.mk hin
 have hn2 : l.length ≤ 9223372036854775807 := by unfold maxLen at hn; omega
 clear al hin hn
 obtain ⟨n, hnn⟩ : ∃ n, l.length = n := ⟨_, rfl⟩
 unfold ofRs at hc
 rw [hnn] at hn2 hc ⊢
 by_cases h0 : 4096 < n
 ·rw [if_pos h0] at hc
  subst hc
  have t0 : decide ((4096 : Int) < (n : Int)) = true := decide_eq_true (by omega)
  go_enter Tryz.func44, Tryz.ntmps44
  go_wp2_with fail
  go_ret2
  exact ⟨⟨[], none, 0, rfl, fun h => absurd h (by decide), fun _ => rfl, lr_nil HL.out.below⟩, HL.out.below⟩
 ·rw [if_neg h0] at hc
  have t0 : decide ((4096 : Int) < (n : Int)) = false := decide_eq_false (by omega)
  go_enter Tryz.func44, Tryz.ntmps44
  go_wp2_with fail
  go_loopw [4, 5] (fun i _ wr => ∃ p : Nat, p ≤ n ∧ i = .int .i64 (p : Int) ∧ frsR (l.drop p) = c ∧ Kp (OkTo l p) ∧ Kp (Lr w a l wr)) (fun i _ _ => n - (intOf i).toNat)
  case atStart => exact ⟨0, by omega, rfl, hc, ⟨fun _ _ h => by omega⟩, HL⟩
  case round =>
   obtain ⟨p, hp, rfl, hq, HO, HL⟩ := hrel
   by_cases h1 : p < n
   ·have t1 : decide ((p : Int) < (n : Int)) = true := decide_eq_true (by omega)
    have b1 : (p : Int) < (n : Int) := by omega
    obtain ⟨r, hr⟩ : ∃ r, l[p]? = some r := ⟨l[p]'(by omega), List.getElem?_eq_getElem (by omega)⟩
    obtain ⟨g, s, rfl⟩ := HL.out.place hr
    rw [drop_at hr] at hq
    have hri := HI.out r (List.mem_of_getElem? hr)
    obtain ⟨v, hv⟩ : ∃ v, chkR r = v := ⟨_, rfl⟩
    have rc := Kp.mk (fun w => refRChk_is hv w)
    have wp1 : IntKind.i64.wrap ((p : Int) + 1) = (p : Int) + 1 := IntWalk.i64_in _ (by omega)
    obtain ⟨k0, k1, k2, k3⟩ := HL.out.cells hr
    unfold frsR at hq
    by_cases h2 : v = 0
    ·subst h2
     rw [if_pos hv] at hq
     have HO := Kp.mk (HO.out.more ((chkR_zero hri).1 hv) hr)
     clear hv hri
     go_wp2_with fail
     refine (rc.out _).mono ?_
     rintro e v1 ⟨rfl, hbl⟩
     have HL := Kp.mk (HL.out.step hbl)
     clear hbl k0 k1 k2 k3
     go_wp2_with fail
     go_roundw
     case rel => exact ⟨p + 1, by omega, by go_num, hq, HO, HL⟩
     case measure => simp [intOf]; omega
    ·rw [if_neg (by rw [hv]; exact h2), hv] at hq
     have t2 : (v != 0) = true := by rw [bne_iff_ne]; exact h2
     have hne := Kp.mk h2
     subst hq
     clear hv hri h2
     go_wp2_with fail
     refine (rc.out _).mono ?_
     rintro e v1 ⟨rfl, hbl⟩
     have HL := Kp.mk (HL.out.step hbl)
     clear hbl k0 k1 k2 k3
     go_wp2_with fail
     go_ret2
     exact ⟨⟨[], none, 0, rfl, fun h => absurd h hne.out, fun _ => rfl, lr_nil HL.out.below⟩, HL.out.below⟩
   ·obtain rfl : p = n := by omega
    rw [List.drop_of_length_le (by omega)] at hq
    obtain rfl : 0 = c := hq
    have ra := refSAll_is (cap := cap) (ok_all HO.out (by omega)) (by omega) HL.out.now
    rw [hnn] at ra
    have RA := Kp.mk ra
    clear ra
    go_wp2_with fail
    refine RA.out.mono ?_
    rintro e v1 ⟨⟨m2, b2, p2, rfl, hm, hlen2, hlr⟩, hbl⟩
    have HL := Kp.mk (HL.out.step hbl)
    have HM : Kp (Lr w b2 m2 v1) := Kp.mk ⟨HL.out.below, hlr.at4⟩
    have HD := Kp.mk hm
    clear hbl hlr hm RA
    go_wp2_with fail
    go_ret2
    exact ⟨⟨m2, b2, ⟨p2, rfl⟩, ⟨HD.out, hlen2⟩, HM.out⟩, HL.out.below⟩
end Go.Proofs.YtndjcmclmhoigaaGreatDoor
namespace Go.Proofs.YtndjcmclmhoigaaGreatDoor
open Go.RowKit
set_option maxRecDepth 100000

variable {w W W' : World} {a b : Option Addr} {l m : List Rn}
def bothRs (l m : List Rn) : Int := if chkRs l = 0 then chkRs m else chkRs l
def hasRs (l : List Rn) (d : Int) : Bool := l.any fun r => hasN r d
set_option maxHeartbeats 4000000 in
theorem refSHas_is {c : Bool} {cap : Nat} {d : Int} (hin : ∀ r, r ∈ l → r.In) (hc : hasRs l d = c) (hn : l.length ≤ maxLen) (d0 : -9223372036854775808 ≤ d) (d1 : d ≤ 9223372036854775807) (hl : Lr w a l w) :
 Calls Tryz.prog 45 #[.slice a l.length cap, .int .i64 d] w fun x w' => x = .returned (.int .i64 (if c then 1 else 0)) ∧ Below w.heap.size w w' := by
 have HL := Kp.mk hl
 have HI := Kp.mk hin
 have hn2 : l.length ≤ 9223372036854775807 := by unfold maxLen at hn; omega
 clear hl hin hn
 unfold hasRs at hc
 have RH := Kp.mk (fun (r : Rn) (x : Bool) (hr : r.Ok) (hb : decide (r.lo ≤ d ∧ d ≤ r.hi) = x) (w : World) => refRHas_is hr d0 d1 hb w)
 clear d0 d1
 obtain ⟨n, hnn⟩ : ∃ n, l.length = n := ⟨_, rfl⟩
 rw [hnn] at hn2 ⊢
 go_enter Tryz.func45, Tryz.ntmps45
 go_wp2_with fail
 go_loopw [5] (fun i wr => ∃ p : Nat, p ≤ n ∧ i = .int .i64 (p : Int) ∧ ((l.drop p).any fun r => hasN r d) = c ∧ Kp (Lr w a l wr)) (fun i _ => n - (intOf i).toNat)
 case atStart => exact ⟨0, by omega, rfl, hc, HL⟩
 case round =>
  obtain ⟨p, hp, rfl, hq, HL⟩ := hrel
  by_cases h1 : p < n
  ·have t1 : decide ((p : Int) < (n : Int)) = true := decide_eq_true (by omega)
   have b1 : (p : Int) < (n : Int) := by omega
   obtain ⟨r, hr⟩ : ∃ r, l[p]? = some r := ⟨l[p]'(by omega), List.getElem?_eq_getElem (by omega)⟩
   obtain ⟨g, s, rfl⟩ := HL.out.place hr
   rw [drop_at hr] at hq
   have hri := HI.out r (List.mem_of_getElem? hr)
   obtain ⟨v, hv⟩ : ∃ v, chkR r = v := ⟨_, rfl⟩
   have rc := Kp.mk (fun w => refRChk_is hv w)
   have wp1 : IntKind.i64.wrap ((p : Int) + 1) = (p : Int) + 1 := IntWalk.i64_in _ (by omega)
   obtain ⟨k0, k1, k2, k3⟩ := HL.out.cells hr
   rw [List.any_cons] at hq
   by_cases h2 : v = 0
   ·subst h2
    have hok := (chkR_zero hri).1 hv
    obtain ⟨x, hx⟩ : ∃ x, decide (r.lo ≤ d ∧ d ≤ r.hi) = x := ⟨_, rfl⟩
    have rh := Kp.mk (RH.out r x hok hx)
    have e : hasN r d = x := by rw [← hx]; unfold hasN; rw [decide_eq_decide]; exact ⟨fun h => h.2, fun h => ⟨hv, h⟩⟩
    rw [e] at hq
    clear e hx hv hok hri
    cases x with
    | true =>
     obtain rfl : true = c := hq
     go_wp2_with fail
     refine (rc.out _).mono ?_
     rintro e v1 ⟨rfl, hbl⟩
     have HL := Kp.mk (HL.out.step hbl)
     clear hbl k0 k1 k2 k3
     obtain ⟨k0, k1, k2, k3⟩ := HL.out.cells hr
     go_wp2_with fail
     refine (rh.out _).mono ?_
     rintro e v2 ⟨rfl, hbl⟩
     have HL := Kp.mk (HL.out.step hbl)
     clear hbl k0 k1 k2 k3
     go_wp2_with fail
     go_ret
     exact ⟨rfl, HL.out.below⟩
    | false =>
     rw [Bool.false_or] at hq
     go_wp2_with fail
     refine (rc.out _).mono ?_
     rintro e v1 ⟨rfl, hbl⟩
     have HL := Kp.mk (HL.out.step hbl)
     clear hbl k0 k1 k2 k3
     obtain ⟨k0, k1, k2, k3⟩ := HL.out.cells hr
     go_wp2_with fail
     refine (rh.out _).mono ?_
     rintro e v2 ⟨rfl, hbl⟩
     have HL := Kp.mk (HL.out.step hbl)
     clear hbl k0 k1 k2 k3
     go_wp2_with fail
     go_roundw
     case rel => exact ⟨p + 1, by omega, by go_num, hq, HL⟩
     case measure => simp [intOf]; omega
   ·have e : hasN r d = false := by unfold hasN; exact decide_eq_false (fun h => h2 (by rw [← hv]; exact h.1))
    rw [e, Bool.false_or] at hq
    have t2 : (v == 0) = false := by rw [beq_eq_false_iff_ne]; exact h2
    clear hv hri h2 e
    go_wp2_with fail
    refine (rc.out _).mono ?_
    rintro e v1 ⟨rfl, hbl⟩
    have HL := Kp.mk (HL.out.step hbl)
    clear hbl k0 k1 k2 k3
    go_wp2_with fail
    go_roundw
    case rel => exact ⟨p + 1, by omega, by go_num, hq, HL⟩
    case measure => simp [intOf]; omega
  ·obtain rfl : p = n := by omega
   rw [List.drop_of_length_le (by omega)] at hq
   obtain rfl : false = c := hq
   go_wp2_with fail
   go_ret
   exact ⟨rfl, HL.out.below⟩
def inRs (l m : List Rn) : Bool := l.all fun r => m.any fun s => inN r s
end Go.Proofs.YtndjcmclmhoigaaGreatDoor
namespace Go.Proofs.YtndjcmclmhoigaaGreatDoor

theorem cmp_hilo {a b : Rn} (ha : a.Ok) (hb : b.Ok) : cmpE a.g a.e b.f b.d = cmpI a.hi b.lo := by
 have h1 := ha.pos.ph
 have h2 := hb.pos.pl
 have := cmpE_le a.g a.e b.f b.d
 have := cmpE_zero a.g a.e b.f b.d
 have := cmpE_one a.g a.e b.f b.d
 rcases cmpI_cases a.hi b.lo with i | i | i <;> rw [i.2] <;> omega
/-- the second lies behind the first, and does not touch it -/
theorem next_iff {a b : Rn} (ha : a.Ok) (hb : b.Ok) : ¬ (0 ≤ cmpE a.g a.e b.f b.d ∨ touchN a b = true) ↔ a.hi + 1 < b.lo := by
 have p := ha.pos.le
 have q := hb.pos.le
 rw [cmp_hilo ha hb, touch_iff ha hb]
 rcases cmpI_cases a.hi b.lo with i | i | i <;> rw [i.2] <;> omega
theorem chkFrom_zero : ∀ {l : List Rn} {q : Option Rn}, (∀ r, r ∈ l → r.In) → (∀ s, q = some s → s.Ok) → (chkFrom q l = 0 ↔ RsCan (q.toList ++ l))
 | [], none, _, _ => ⟨fun _ => rsc_nil, fun _ => rfl⟩
 | [], some s, _, hq => ⟨fun _ => rsc_cons.2 ⟨hq s rfl, fun _ h => (by cases h), rsc_nil⟩, fun _ => rfl⟩
 | r :: t, none, hin, _ => by
  have hr := chkR_zero (hin r (by simp))
  have ht := fun h : r.Ok => chkFrom_zero (l := t) (q := some r) (fun b hb => hin b (List.mem_cons.2 (.inr hb))) (fun s e => by injection e with e; exact e ▸ h)
  unfold chkFrom
  by_cases h : chkR r = 0
  ·rw [if_pos h]
   exact ht (hr.1 h)
  ·rw [if_neg h]
   exact ⟨fun e => absurd e h, fun hc => absurd (hr.2 (rsc_cons.1 hc).1) h⟩
 | r :: t, some s, hin, hq => by
  have hs := hq s rfl
  have hr := chkR_zero (hin r (by simp))
  have ht := fun h : r.Ok => chkFrom_zero (l := t) (q := some r) (fun b hb => hin b (List.mem_cons.2 (.inr hb))) (fun s e => by injection e with e; exact e ▸ h)
  unfold chkFrom
  by_cases h : chkR r = 0
  ·have hok := hr.1 h
   have hn := next_iff hs hok
   rw [if_pos h]
   show (if _ then (12 : Int) else chkFrom (some r) t) = 0 ↔ RsCan (s :: r :: t)
   by_cases h2 : 0 ≤ cmpE s.g s.e r.f r.d ∨ touchN s r = true
   ·rw [if_pos h2]
    refine ⟨fun e => absurd e (by decide), fun hc => absurd h2 (hn.2 ((rsc_cons.1 hc).2.1 r (by simp)))⟩
   ·rw [if_neg h2, ht hok]
    have h3 := hn.1 h2
    refine ⟨fun hc => rsc_cons.2 ⟨hs, fun b hb => ?_, hc⟩, fun hc => (rsc_cons.1 hc).2.2⟩
    rcases List.mem_cons.1 hb with rfl | hb
    ·exact h3
    ·have := (rsc_cons.1 hc).2.1 b hb
     have := hok.pos.le
     omega
  ·rw [if_neg h]
   exact ⟨fun e => absurd e h, fun hc => absurd (hr.2 ((rsc_cons.1 (rsc_cons.1 hc).2.2).1)) h⟩
theorem chkRs_zero {l : List Rn} (hin : ∀ r, r ∈ l → r.In) : chkRs l = 0 ↔ l.length ≤ 4096 ∧ RsCan l := by
 have h := chkFrom_zero (q := none) hin (fun s e => by cases e)
 unfold chkRs
 by_cases h1 : 4096 < l.length
 ·rw [if_pos h1]
  exact ⟨fun e => absurd e (by decide), fun e => by omega⟩
 ·rw [if_neg h1, h]
  exact ⟨fun e => ⟨by omega, e⟩, fun e => e.2⟩
end Go.Proofs.YtndjcmclmhoigaaGreatDoor
namespace Go.Proofs.YtndjcmclmhoigaaGreatDoor
open Go.RowKit
set_option maxRecDepth 100000

variable {w W W' : World} {a b : Option Addr} {l m : List Rn}
theorem both_zero (hl : ∀ r, r ∈ l → r.In) (hm : ∀ r, r ∈ m → r.In) (h : bothRs l m = 0) : (l.length ≤ 4096 ∧ RsCan l) ∧ m.length ≤ 4096 ∧ RsCan m := by
 have e1 : chkRs l = 0 := by
  unfold bothRs at h
  by_cases h1 : chkRs l = 0
  ·exact h1
  ·rw [if_neg h1] at h; exact h
 exact ⟨(chkRs_zero hl).1 e1, (chkRs_zero hm).1 (by unfold bothRs at h; rw [if_pos e1] at h; exact h)⟩
end Go.Proofs.YtndjcmclmhoigaaGreatDoor
