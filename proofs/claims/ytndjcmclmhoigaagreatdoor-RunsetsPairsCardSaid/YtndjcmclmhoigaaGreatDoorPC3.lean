/-
 DERIVED. HOW LONG the sets of a law are: no longer than the two that they are made of; the contracts for such.
 DERIVED. WHICH DAYS the sets of a law have; when a set is within another one. No program.
 DERIVED. CONTRACTS of package runsets (the developers' functions): combine, Union, Common, Without, Complement, Within. Written by mkrsd7.py.
 DERIVED. CONTRACTS of package runsets (the developers' functions): Count. Written by mkrsd8.py.
-/
import Derived.Test.YtndjcmclmhoigaaGreatDoorPB4
import Derived.Test.YtndjcmclmhoigaaGreatDoorPRsDvF
import Derived.Test.YtndjcmclmhoigaaGreatDoorPRsDvC
import Derived.Test.YtndjcmclmhoigaaGreatDoorPA8
import Derived.Test.YtndjcmclmhoigaaGreatDoorPB1
import Derived.Test.YtndjcmclmhoigaaGreatDoorPA6
import Derived.Test.YtndjcmclmhoigaaGreatDoorPB5
namespace Go.Proofs.YtndjcmclmhoigaaGreatDoor
open Go.RowKit
set_option maxRecDepth 100000

theorem nodup_len : ∀ {xs ys : List Int}, xs.Nodup → (∀ x, x ∈ xs → x ∈ ys) → xs.length ≤ ys.length
 | [], _, _, _ => Nat.zero_le _
 | x :: t, ys, hn, hs => by
  have hx := hs x (by simp)
  have h1 := List.nodup_cons.1 hn
  have h2 := nodup_len (ys := ys.erase x) h1.2 (fun y hy => (List.mem_erase_of_ne (fun (e : y = x) => h1.1 (by rw [← e]; exact hy))).2 (hs y (List.mem_cons.2 (.inr hy))))
  rw [List.length_erase_of_mem hx] at h2
  have : 0 < ys.length := List.length_pos_of_mem hx
  rw [List.length_cons]
  omega
theorem lo_nodup : ∀ {u : List Rn}, RsCan u → (u.map Rn.lo).Nodup
 | [], _ => List.nodup_nil
 | r :: t, h => by
  have hc := rsc_cons.1 h
  rw [List.map_cons, List.nodup_cons]
  refine ⟨fun hm => ?_, lo_nodup hc.2.2⟩
  obtain ⟨q, hq, e⟩ := List.mem_map.1 hm
  have := hc.2.1 q hq
  have := hc.1.pos.le
  omega
/-- ahead of a run of a right set there is no place of it -/
theorem lo_first {u : List Rn} (h : RsCan u) {r : Rn} (hr : r ∈ u) : ¬ memR u (r.lo - 1) := by
 rintro ⟨q, hq, h1, h2⟩
 have hrl := (h.ok r hr).pos.le
 have key : ∀ {l : List Rn}, l.Pairwise (fun a b => a.hi + 1 < b.lo) → ∀ {x y : Rn}, x ∈ l → y ∈ l → x = y ∨ x.hi + 1 < y.lo ∨ y.hi + 1 < x.lo := by
  intro l hp
  induction hp with
  | nil => intro x y hx; cases hx
  | cons ha _ ih =>
   intro x y hx hy
   rcases List.mem_cons.1 hx with e1 | hx1
   ·rcases List.mem_cons.1 hy with e2 | hy2
    ·exact .inl (e1.trans e2.symm)
    ·rw [e1]; exact .inr (.inl (ha y hy2))
   ·rcases List.mem_cons.1 hy with e2 | hy2
    ·rw [e2]; exact .inr (.inr (ha x hx1))
    ·exact ih hx1 hy2
 rcases key h.gap hq hr with e | e | e
 ·subst e; omega
 ·omega
 ·have := (h.ok q hq).pos.le; omega
theorem set_len {u : List Rn} {S : Int → Prop} (h : IsRs u S) (ys : List Int) (hy : ∀ x, S x → ¬ S (x - 1) → x ∈ ys) : u.length ≤ ys.length := by
 rw [← List.length_map (f := Rn.lo)]
 refine nodup_len (lo_nodup h.can) (fun x hx => ?_)
 obtain ⟨r, hr, rfl⟩ := List.mem_map.1 hx
 refine hy _ ((h.mem _).1 ⟨r, hr, Int.le_refl _, (h.can.ok r hr).pos.le⟩) (fun hs => ?_)
 exact lo_first h.can hr ((h.mem _).2 hs)
variable {l m u : List Rn}
theorem uni_len (h : IsRs u (fun x => memR l x ∨ memR m x)) : u.length ≤ l.length + m.length := by
 have := set_len h ((l ++ m).map Rn.lo) (fun x h1 h2 => by
  have h1 : memR (l ++ m) x := memR_append.2 h1
  have h2 : ¬ memR (l ++ m) (x - 1) := fun q => h2 (memR_append.1 q)
  obtain ⟨r, hr, a, b⟩ := h1
  refine List.mem_map.2 ⟨r, hr, ?_⟩
  by_cases e : r.lo = x
  ·exact e
  ·exact absurd ⟨r, hr, by omega, by omega⟩ h2)
 rw [List.length_map, List.length_append] at this
 exact this
theorem com_len (h : IsRs u (fun x => memR l x ∧ memR m x)) : u.length ≤ l.length + m.length := by
 have := set_len h ((l ++ m).map Rn.lo) (fun x h1 h2 => by
  obtain ⟨⟨r, hr, a, b⟩, ⟨q, hq, c, d⟩⟩ := h1
  by_cases e : r.lo = x
  ·exact List.mem_map.2 ⟨r, List.mem_append.2 (.inl hr), e⟩
  ·by_cases f : q.lo = x
   ·exact List.mem_map.2 ⟨q, List.mem_append.2 (.inr hq), f⟩
   ·exact absurd ⟨⟨r, hr, by omega, by omega⟩, ⟨q, hq, by omega, by omega⟩⟩ h2)
 rw [List.length_map, List.length_append] at this
 exact this
theorem wo_len (h : IsRs u (fun x => memR l x ∧ leftM m x)) : u.length ≤ l.length + m.length := by
 have := set_len h (l.map Rn.lo ++ m.map (fun r => r.hi + 1)) (fun x h1 h2 => by
  obtain ⟨⟨r, hr, a, b⟩, h3, h4, h5⟩ := h1
  by_cases e : r.lo = x
  ·exact List.mem_append.2 (.inl (List.mem_map.2 ⟨r, hr, e⟩))
  ·have hl : memR l (x - 1) := ⟨r, hr, by omega, by omega⟩
   by_cases hm : memR m (x - 1)
   ·obtain ⟨q, hq, c, d⟩ := hm
    refine List.mem_append.2 (.inr (List.mem_map.2 ⟨q, hq, ?_⟩))
    by_cases f : q.hi + 1 = x
    ·exact f
    ·exact absurd ⟨q, hq, by omega, by omega⟩ h3
   ·refine absurd ⟨hl, hm, fun y => ?_, fun y => ?_⟩ h2
    ·by_cases z : x < -9223372036854775808
     ·exact h4 z
     ·have : x = -9223372036854775808 := by omega
      rw [← this]; exact h3
    ·exact h5 (by omega))
 rw [List.length_append, List.length_map, List.length_map] at this
 exact this
variable {I : World → Prop} {w : World} {a b : Option Addr} {p q : Nat}
theorem short_set {S : Int → Prop} (hS : ∀ u, IsRs u S → u.length ≤ 4096) {x : Ending} {w' : World} (h : ShortC S w x w') : SetOf S w x w' := by
 obtain ⟨⟨m, h1, _, ⟨_, b, h3, h4⟩ | ⟨h2, _⟩⟩, hb⟩ := h
 ·exact ⟨⟨m, b, h1, h3, h4⟩, hb⟩
 ·have := hS m h1; omega
theorem uni_s (C : SetCore I) (w : World) (hI : I w) (hl : InL l) (hm : InL m) (nl : l.length ≤ maxLen) (nm : m.length ≤ maxLen) (al : Lr w a l w) (am : Lr w b m w) (hc : bothRs l m = 0) (hn : l.length + m.length ≤ 4096) (hp : l.length ≤ p) (hq : m.length ≤ q) :
 Calls Tryz.prog 50 #[.slice a l.length p, .slice b m.length q] w (SetOf (fun x => memR l x ∨ memR m x) w) :=
 (C.uni w hI hl hm nl nm al am hc hp hq).mono fun _ _ h => short_set (fun _ hu => Nat.le_trans (uni_len hu) hn) h
theorem com_s (C : SetCore I) (w : World) (hI : I w) (hl : InL l) (hm : InL m) (nl : l.length ≤ maxLen) (nm : m.length ≤ maxLen) (al : Lr w a l w) (am : Lr w b m w) (hc : bothRs l m = 0) (hn : l.length + m.length ≤ 4096) (hp : l.length ≤ p) (hq : m.length ≤ q) :
 Calls Tryz.prog 51 #[.slice a l.length p, .slice b m.length q] w (SetOf (fun x => memR l x ∧ memR m x) w) :=
 (C.com w hI hl hm nl nm al am hc hp hq).mono fun _ _ h => short_set (fun _ hu => Nat.le_trans (com_len hu) hn) h
theorem wo_s (C : SetCore I) (w : World) (hI : I w) (hl : InL l) (hm : InL m) (nl : l.length ≤ maxLen) (nm : m.length ≤ maxLen) (al : Lr w a l w) (am : Lr w b m w) (hc : bothRs l m = 0) (hn : l.length + m.length ≤ 4096) (hp : l.length ≤ p) (hq : m.length ≤ q) :
 Calls Tryz.prog 52 #[.slice a l.length p, .slice b m.length q] w (SetOf (fun x => memR l x ∧ leftM m x) w) :=
 (C.wo w hI hl hm nl nm al am hc hp hq).mono fun _ _ h => short_set (fun _ hu => Nat.le_trans (wo_len hu) hn) h
theorem cpl_s (C : SetCore I) (w : World) (hI : I w) (hl : InL l) (nl : l.length ≤ maxLen) (al : Lr w a l w) (hc : chkRs l = 0) (hn : l.length ≤ 4000) (hp : l.length ≤ p) :
 Calls Tryz.prog 60 #[.slice a l.length p] w (SetOf (fun x => memR [wholeR] x ∧ leftM l x) w) :=
 (C.cpl w hI hl nl al hc hp).mono fun _ _ h => short_set (fun _ hu => by have := wo_len hu; simp at this; omega) h
end Go.Proofs.YtndjcmclmhoigaaGreatDoor
namespace Go.Proofs.YtndjcmclmhoigaaGreatDoor
open Go.RowKit
set_option maxRecDepth 100000

variable {l m u : List Rn} {d : Int}
theorem has_is {S : Int → Prop} (h : IsRs u S) : hasRs u d = true ↔ S d := (has_mem (isrs_in h) h.can.ok).trans (h.mem d)
theorem has_can (hi : InL l) (h : RsCan l) : hasRs l d = true ↔ memR l d := has_mem hi h.ok
theorem uni_has (hl : InL l) (hm : InL m) (cl : RsCan l) (cm : RsCan m) (h : IsRs u (fun x => memR l x ∨ memR m x)) : hasRs u d = (hasRs l d || hasRs m d) := by
 rw [Bool.eq_iff_iff, has_is h, Bool.or_eq_true, has_can hl cl, has_can hm cm]
theorem com_has (hl : InL l) (hm : InL m) (cl : RsCan l) (cm : RsCan m) (h : IsRs u (fun x => memR l x ∧ memR m x)) : hasRs u d = (hasRs l d && hasRs m d) := by
 rw [Bool.eq_iff_iff, has_is h, Bool.and_eq_true, has_can hl cl, has_can hm cm]
theorem wo_has (hl : InL l) (hm : InL m) (cl : RsCan l) (cm : RsCan m) (h : IsRs u (fun x => memR l x ∧ leftM m x)) (d0 : -9223372036854775808 ≤ d) (d1 : d ≤ 9223372036854775807) : hasRs u d = (hasRs l d && !hasRs m d) := by
 rw [Bool.eq_iff_iff, has_is h, Bool.and_eq_true, has_can hl cl, left_day d0 d1, Bool.not_eq_true', ← Bool.not_eq_true, has_can hm cm]
theorem run_one {m : List Rn} (h : RsCan m) {s t : Rn} (hs : s ∈ m) (ht : t ∈ m) : s = t ∨ s.hi + 1 < t.lo ∨ t.hi + 1 < s.lo := by
 have key : ∀ {l : List Rn}, l.Pairwise (fun a b => a.hi + 1 < b.lo) → ∀ {x y : Rn}, x ∈ l → y ∈ l → x = y ∨ x.hi + 1 < y.lo ∨ y.hi + 1 < x.lo := by
  intro l hp
  induction hp with
  | nil => intro x y hx; cases hx
  | cons ha _ ih =>
   intro x y hx hy
   rcases List.mem_cons.1 hx with e1 | hx1
   ·rcases List.mem_cons.1 hy with e2 | hy2
    ·exact .inl (e1.trans e2.symm)
    ·rw [e1]; exact .inr (.inl (ha y hy2))
   ·rcases List.mem_cons.1 hy with e2 | hy2
    ·rw [e2]; exact .inr (.inr (ha x hx1))
    ·exact ih hx1 hy2
 exact key h.gap hs ht
/-- a set is within another one just if it gives it no place -/
theorem in_sub (hl : InL l) (hm : InL m) (cl : RsCan l) (cm : RsCan m) : inRs l m = true ↔ ∀ x, memR l x → memR m x := by
 unfold inRs
 rw [List.all_eq_true]
 constructor
 ·rintro h x ⟨r, hr, h1, h2⟩
  obtain ⟨s, hs, e⟩ := List.any_eq_true.1 (h r hr)
  have e := of_decide_eq_true e
  exact ⟨s, hs, by omega, by omega⟩
 ·intro h r hr
  have hrl := (cl.ok r hr).pos.le
  obtain ⟨s, hs, a, b⟩ := h r.lo ⟨r, hr, Int.le_refl _, hrl⟩
  refine List.any_eq_true.2 ⟨s, hs, decide_eq_true ⟨(chkR_zero (hl r hr)).2 (cl.ok r hr), (chkR_zero (hm s hs)).2 (cm.ok s hs), a, ?_⟩⟩
  by_cases e : r.hi ≤ s.hi
  ·exact e
  ·obtain ⟨t, ht, c, d⟩ := h (s.hi + 1) ⟨r, hr, by omega, by omega⟩
   rcases run_one cm hs ht with f | f | f
   ·subst f; omega
   ·omega
   ·omega
end Go.Proofs.YtndjcmclmhoigaaGreatDoor
namespace Go.Proofs.YtndjcmclmhoigaaGreatDoor
open Go.RowKit
set_option maxRecDepth 100000

variable {w W : World} {a b : Option Addr} {l m : List Rn}

theorem kUni_eg : ∀ args w, (callFunc 113 args).run Tryz.prog w = .ok (.enter 113 args) w := enters_of Tryz.func113 (by kernel_rfl) rfl
set_option maxHeartbeats 2000000 in
theorem kUni_is (x y : Bool) (u : World) : Calls Tryz.prog 113 #[.bool x, .bool y] u fun e w' => e = .returned (.bool (x || y)) ∧ Below u.heap.size u w' := by
 have HB := Kp.mk (Below.refl u.heap.size u)
 cases x <;> cases y
 all_goals (
  go_enter Tryz.func113, Tryz.ntmps113
  go_wp2_with fail
  go_ret
  exact ⟨rfl, HB.out⟩)
theorem kCom_eg : ∀ args w, (callFunc 114 args).run Tryz.prog w = .ok (.enter 114 args) w := enters_of Tryz.func114 (by kernel_rfl) rfl
set_option maxHeartbeats 2000000 in
theorem kCom_is (x y : Bool) (u : World) : Calls Tryz.prog 114 #[.bool x, .bool y] u fun e w' => e = .returned (.bool (x && y)) ∧ Below u.heap.size u w' := by
 have HB := Kp.mk (Below.refl u.heap.size u)
 cases x <;> cases y
 all_goals (
  go_enter Tryz.func114, Tryz.ntmps114
  go_wp2_with fail
  go_ret
  exact ⟨rfl, HB.out⟩)
theorem kWo_eg : ∀ args w, (callFunc 115 args).run Tryz.prog w = .ok (.enter 115 args) w := enters_of Tryz.func115 (by kernel_rfl) rfl
set_option maxHeartbeats 2000000 in
theorem kWo_is (x y : Bool) (u : World) : Calls Tryz.prog 115 #[.bool x, .bool y] u fun e w' => e = .returned (.bool (x && !y)) ∧ Below u.heap.size u w' := by
 have HB := Kp.mk (Below.refl u.heap.size u)
 cases x <;> cases y
 all_goals (
  go_enter Tryz.func115, Tryz.ntmps115
  go_wp2_with fail
  go_ret
  exact ⟨rfl, HB.out⟩)
theorem ShortC.from {S : Int → Prop} {w v x : _} {w' : World} (hb : Below w.heap.size w v) (h : ShortC S v x w') : ShortC S w x w' := by
 obtain ⟨⟨m, h1, h2, h3⟩, h4⟩ := h
 refine ⟨⟨m, h1, h2, ?_⟩, hb.trans (h4.mono hb.size)⟩
 rcases h3 with ⟨h3, b, hx, hl⟩ | h3
 ·exact .inl ⟨h3, b, hx, hl.from hb⟩
 ·exact .inr h3
theorem ShortC.congr {S T : Int → Prop} {w x : _} {w' : World} (h : ShortC S w x w') (e : ∀ x, S x ↔ T x) : ShortC T w x w' := by
 obtain ⟨⟨m, h1, h2, h3⟩, h4⟩ := h
 exact ⟨⟨m, h1.congr e, h2, h3⟩, h4⟩
set_option maxHeartbeats 4000000 in
theorem dComb_bad {fv : Value} {n k p q : Nat} {c : Int} (h0 : ¬ c = 0) (hI : ∀ u, Below w.heap.size w u → Calls Tryz.prog 116 #[.slice a n p, .slice b k q] u fun x w' => x = .returned (.int .i64 c) ∧ Below u.heap.size u w') :
 Calls Tryz.prog 112 #[.slice a n p, .slice b k q, fv] w (NoSet c w) := by
 have HB := Kp.mk (Below.refl w.heap.size w)
 have r1 := Kp.mk hI
 clear hI
 have t1 : (c != 0) = true := by rw [bne_iff_ne]; exact h0
 clear h0
 go_enter Tryz.func112, Tryz.ntmps112
 go_wp2_with fail
 refine (r1.out _ HB.out).mono ?_
 rintro e v1 ⟨rfl, hb⟩
 have HB := Kp.mk (HB.out.trans (hb.mono HB.out.size))
 clear hb r1
 go_wp2_with fail
 go_ret2
 exact ⟨⟨_, _, rfl⟩, HB.out⟩
set_option maxHeartbeats 4000000 in
theorem dComb_is {S : Int → Prop} {fk : Nat} {n k p q : Nat} (hI : ∀ u, Below w.heap.size w u → Calls Tryz.prog 116 #[.slice a n p, .slice b k q] u fun x w' => x = .returned (.int .i64 0) ∧ Below u.heap.size u w')
 (hS : ∀ u, Below w.heap.size w u → Calls Tryz.prog 117 #[.slice a n p, .slice b k q, .func (.func fk) #[] #[]] u (SwRes u S)) :
 Calls Tryz.prog 112 #[.slice a n p, .slice b k q, .func (.func fk) #[] #[]] w (ShortC S w) := by
 have HB := Kp.mk (Below.refl w.heap.size w)
 have r1 := Kp.mk hI
 have r2 := Kp.mk hS
 clear hI hS
 go_enter Tryz.func112, Tryz.ntmps112
 go_wp2_with fail
 refine (r1.out _ HB.out).mono ?_
 rintro e v1 ⟨rfl, hb⟩
 have HB := Kp.mk (HB.out.trans (hb.mono HB.out.size))
 clear hb r1
 go_wp2_with fail
 refine (r2.out _ HB.out).mono ?_
 clear r2
 rintro e v2 ⟨⟨b', u, c, rfl, hu, hn, hc, hx, hl⟩, hb⟩
 have HL := Kp.mk (hl.from HB.out)
 have HB := Kp.mk (HB.out.trans (hb.mono HB.out.size))
 have HU := Kp.mk hu
 have HN := Kp.mk (show u.length ≤ 16777216 by omega)
 clear hl hb hu
 have hu2 : (u.length : Int) ≤ 9223372036854775807 := by omega
 by_cases h1 : 4096 < u.length
 ·have t1 : decide ((4096 : Int) < (u.length : Int)) = true := by rw [decide_eq_true_iff]; omega
  have H1 := Kp.mk h1
  clear hn hc hx h1
  obtain ⟨z, hz⟩ : ∃ z, u.length = z := ⟨_, rfl⟩
  have HZ := Kp.mk hz
  rw [hz] at t1 hu2 ⊢
  clear hz
  go_wp2_with fail
  go_ret2
  exact ⟨⟨u, HU.out, HN.out, .inr ⟨H1.out, none, 0, rfl⟩⟩, HB.out⟩
 ·have t1 : decide ((4096 : Int) < (u.length : Int)) = false := by rw [decide_eq_false_iff_not]; omega
  have H1 := Kp.mk (Nat.le_of_not_lt h1)
  have r3 := Kp.mk (fun w => dCut_is (a := b') hc w)
  clear hn hc hx h1
  obtain ⟨z, hz⟩ : ∃ z, u.length = z := ⟨_, rfl⟩
  have HZ := Kp.mk hz
  rw [hz] at t1 hu2 r3 ⊢
  clear hz
  go_wp2_with fail
  refine (r3.out _).mono ?_
  rintro e v3 ⟨rfl, hb⟩
  have HL := Kp.mk (HL.out.step hb)
  have HB := Kp.mk (HB.out.trans (hb.mono HB.out.size))
  clear hb r3
  go_wp2_with fail
  go_ret2
  have hz := HZ.out
  subst hz
  exact ⟨⟨u, HU.out, HN.out, .inl ⟨H1.out, b', rfl, HL.out⟩⟩, HB.out⟩

set_option maxHeartbeats 4000000 in
theorem dUni_bad {c : Int} {p q : Nat} (hL : LaidEn w) (hl : InL l) (hm : InL m) (nl : l.length ≤ maxLen) (nm : m.length ≤ maxLen) (al : Lr w a l w) (am : Lr w b m w) (hc : bothRs l m = c) (h0 : ¬ c = 0) :
 Calls Tryz.prog 50 #[.slice a l.length p, .slice b m.length q] w (NoSet c w) := by
 have r1 := Kp.mk (dComb_bad (w := w) (a := a) (b := b) (n := l.length) (k := m.length) (p := p) (q := q) (fv := .func (.func 113) #[] #[]) h0 fun u hu => dBoth_is (p := p) (q := q) hl hm hc nl nm (al.step hu).now (am.step hu).now (hL.below hu))
 clear hc h0 hl hm nl nm al am hL
 generalize l.length = n at *
 generalize m.length = k at *
 go_enter Tryz.func50, Tryz.ntmps50
 go_wp2_with fail
 refine r1.out.mono ?_
 clear r1
 rintro e v1 ⟨⟨x, y, rfl⟩, hb⟩
 have HB := Kp.mk hb
 clear hb
 go_wp2_with fail
 go_ret2
 exact ⟨⟨_, _, rfl⟩, HB.out⟩
set_option maxHeartbeats 4000000 in
theorem dUni_is {p q : Nat} (hL : LaidRs w) (hl : InL l) (hm : InL m) (nl : l.length ≤ maxLen) (nm : m.length ≤ maxLen) (al : Lr w a l w) (am : Lr w b m w) (hc : bothRs l m = 0) (hp : l.length ≤ p) (hq : m.length ≤ q) :
 Calls Tryz.prog 50 #[.slice a l.length p, .slice b m.length q] w (ShortC (fun x => memR l x ∨ memR m x) w) := by
 obtain ⟨⟨nl2, cl⟩, nm2, cm⟩ := both_zero hl hm hc
 have r1 := Kp.mk (dComb_is (w := w) (a := a) (b := b) (n := l.length) (k := m.length) (p := p) (q := q) (fk := 113) (fun u hu => dBoth_is (p := p) (q := q) hl hm hc nl nm (al.step hu).now (am.step hu).now (hL.en.below hu))
  fun u hu => dSweep_is kUni_eg kUni_is ⟨(al.step hu).now, hl, hp, nl⟩ ⟨(am.step hu).now, hm, hq, nm⟩ cl cm nl2 nm2 (hL.below hu))
 have HS := Kp.mk (sk_or cl cm)
 clear hc hl hm nl nm al am hL hp hq cl cm nl2 nm2
 obtain ⟨S, hS⟩ : ∃ S : Int → Prop, (fun x => memR l x ∨ memR m x) = S := ⟨_, rfl⟩
 rw [hS]
 have HS2 : Kp (∀ x, SK (fun x => hasE l x || hasE m x) x ↔ S x) := Kp.mk (by rw [← hS]; exact HS.out)
 clear HS hS
 generalize l.length = n at *
 generalize m.length = k at *
 go_enter Tryz.func50, Tryz.ntmps50
 go_wp2_with fail
 refine r1.out.mono ?_
 clear r1
 rintro e v1 h
 have h := h.congr HS2.out
 obtain ⟨⟨u, h1, h2, ⟨h3, b', rfl, hlr⟩ | ⟨h3, b', p', rfl⟩⟩, hb⟩ := h
 ·have HU := Kp.mk (And.intro h1 (And.intro h2 (And.intro h3 (And.intro hlr hb))))
  clear h1 h2 h3 hlr hb
  obtain ⟨z, hz⟩ : ∃ z, u.length = z := ⟨_, rfl⟩
  have HZ := Kp.mk hz
  rw [hz]
  clear hz
  go_wp2_with fail
  go_ret2
  have hz := HZ.out
  subst hz
  obtain ⟨h1, h2, h3, hlr, hb⟩ := HU.out
  exact ⟨⟨u, h1, h2, .inl ⟨h3, b', rfl, hlr⟩⟩, hb⟩
 ·have HU := Kp.mk (And.intro h1 (And.intro h2 (And.intro h3 hb)))
  clear h1 h2 h3 hb
  go_wp2_with fail
  go_ret2
  obtain ⟨h1, h2, h3, hb⟩ := HU.out
  exact ⟨⟨u, h1, h2, .inr ⟨h3, b', p', rfl⟩⟩, hb⟩

set_option maxHeartbeats 4000000 in
theorem dCom_bad {c : Int} {p q : Nat} (hL : LaidEn w) (hl : InL l) (hm : InL m) (nl : l.length ≤ maxLen) (nm : m.length ≤ maxLen) (al : Lr w a l w) (am : Lr w b m w) (hc : bothRs l m = c) (h0 : ¬ c = 0) :
 Calls Tryz.prog 51 #[.slice a l.length p, .slice b m.length q] w (NoSet c w) := by
 have r1 := Kp.mk (dComb_bad (w := w) (a := a) (b := b) (n := l.length) (k := m.length) (p := p) (q := q) (fv := .func (.func 114) #[] #[]) h0 fun u hu => dBoth_is (p := p) (q := q) hl hm hc nl nm (al.step hu).now (am.step hu).now (hL.below hu))
 clear hc h0 hl hm nl nm al am hL
 generalize l.length = n at *
 generalize m.length = k at *
 go_enter Tryz.func51, Tryz.ntmps51
 go_wp2_with fail
 refine r1.out.mono ?_
 clear r1
 rintro e v1 ⟨⟨x, y, rfl⟩, hb⟩
 have HB := Kp.mk hb
 clear hb
 go_wp2_with fail
 go_ret2
 exact ⟨⟨_, _, rfl⟩, HB.out⟩
set_option maxHeartbeats 4000000 in
theorem dCom_is {p q : Nat} (hL : LaidRs w) (hl : InL l) (hm : InL m) (nl : l.length ≤ maxLen) (nm : m.length ≤ maxLen) (al : Lr w a l w) (am : Lr w b m w) (hc : bothRs l m = 0) (hp : l.length ≤ p) (hq : m.length ≤ q) :
 Calls Tryz.prog 51 #[.slice a l.length p, .slice b m.length q] w (ShortC (fun x => memR l x ∧ memR m x) w) := by
 obtain ⟨⟨nl2, cl⟩, nm2, cm⟩ := both_zero hl hm hc
 have r1 := Kp.mk (dComb_is (w := w) (a := a) (b := b) (n := l.length) (k := m.length) (p := p) (q := q) (fk := 114) (fun u hu => dBoth_is (p := p) (q := q) hl hm hc nl nm (al.step hu).now (am.step hu).now (hL.en.below hu))
  fun u hu => dSweep_is kCom_eg kCom_is ⟨(al.step hu).now, hl, hp, nl⟩ ⟨(am.step hu).now, hm, hq, nm⟩ cl cm nl2 nm2 (hL.below hu))
 have HS := Kp.mk (sk_and cl cm)
 clear hc hl hm nl nm al am hL hp hq cl cm nl2 nm2
 obtain ⟨S, hS⟩ : ∃ S : Int → Prop, (fun x => memR l x ∧ memR m x) = S := ⟨_, rfl⟩
 rw [hS]
 have HS2 : Kp (∀ x, SK (fun x => hasE l x && hasE m x) x ↔ S x) := Kp.mk (by rw [← hS]; exact HS.out)
 clear HS hS
 generalize l.length = n at *
 generalize m.length = k at *
 go_enter Tryz.func51, Tryz.ntmps51
 go_wp2_with fail
 refine r1.out.mono ?_
 clear r1
 rintro e v1 h
 have h := h.congr HS2.out
 obtain ⟨⟨u, h1, h2, ⟨h3, b', rfl, hlr⟩ | ⟨h3, b', p', rfl⟩⟩, hb⟩ := h
 ·have HU := Kp.mk (And.intro h1 (And.intro h2 (And.intro h3 (And.intro hlr hb))))
  clear h1 h2 h3 hlr hb
  obtain ⟨z, hz⟩ : ∃ z, u.length = z := ⟨_, rfl⟩
  have HZ := Kp.mk hz
  rw [hz]
  clear hz
  go_wp2_with fail
  go_ret2
  have hz := HZ.out
  subst hz
  obtain ⟨h1, h2, h3, hlr, hb⟩ := HU.out
  exact ⟨⟨u, h1, h2, .inl ⟨h3, b', rfl, hlr⟩⟩, hb⟩
 ·have HU := Kp.mk (And.intro h1 (And.intro h2 (And.intro h3 hb)))
  clear h1 h2 h3 hb
  go_wp2_with fail
  go_ret2
  obtain ⟨h1, h2, h3, hb⟩ := HU.out
  exact ⟨⟨u, h1, h2, .inr ⟨h3, b', p', rfl⟩⟩, hb⟩

set_option maxHeartbeats 4000000 in
theorem dWo_bad {c : Int} {p q : Nat} (hL : LaidEn w) (hl : InL l) (hm : InL m) (nl : l.length ≤ maxLen) (nm : m.length ≤ maxLen) (al : Lr w a l w) (am : Lr w b m w) (hc : bothRs l m = c) (h0 : ¬ c = 0) :
 Calls Tryz.prog 52 #[.slice a l.length p, .slice b m.length q] w (NoSet c w) := by
 have r1 := Kp.mk (dComb_bad (w := w) (a := a) (b := b) (n := l.length) (k := m.length) (p := p) (q := q) (fv := .func (.func 115) #[] #[]) h0 fun u hu => dBoth_is (p := p) (q := q) hl hm hc nl nm (al.step hu).now (am.step hu).now (hL.below hu))
 clear hc h0 hl hm nl nm al am hL
 generalize l.length = n at *
 generalize m.length = k at *
 go_enter Tryz.func52, Tryz.ntmps52
 go_wp2_with fail
 refine r1.out.mono ?_
 clear r1
 rintro e v1 ⟨⟨x, y, rfl⟩, hb⟩
 have HB := Kp.mk hb
 clear hb
 go_wp2_with fail
 go_ret2
 exact ⟨⟨_, _, rfl⟩, HB.out⟩
set_option maxHeartbeats 4000000 in
theorem dWo_is {p q : Nat} (hL : LaidRs w) (hl : InL l) (hm : InL m) (nl : l.length ≤ maxLen) (nm : m.length ≤ maxLen) (al : Lr w a l w) (am : Lr w b m w) (hc : bothRs l m = 0) (hp : l.length ≤ p) (hq : m.length ≤ q) :
 Calls Tryz.prog 52 #[.slice a l.length p, .slice b m.length q] w (ShortC (fun x => memR l x ∧ leftM m x) w) := by
 obtain ⟨⟨nl2, cl⟩, nm2, cm⟩ := both_zero hl hm hc
 have r1 := Kp.mk (dComb_is (w := w) (a := a) (b := b) (n := l.length) (k := m.length) (p := p) (q := q) (fk := 115) (fun u hu => dBoth_is (p := p) (q := q) hl hm hc nl nm (al.step hu).now (am.step hu).now (hL.en.below hu))
  fun u hu => dSweep_is kWo_eg kWo_is ⟨(al.step hu).now, hl, hp, nl⟩ ⟨(am.step hu).now, hm, hq, nm⟩ cl cm nl2 nm2 (hL.below hu))
 have HS := Kp.mk (sk_less cl cm)
 clear hc hl hm nl nm al am hL hp hq cl cm nl2 nm2
 obtain ⟨S, hS⟩ : ∃ S : Int → Prop, (fun x => memR l x ∧ leftM m x) = S := ⟨_, rfl⟩
 rw [hS]
 have HS2 : Kp (∀ x, SK (fun x => hasE l x && !hasE m x) x ↔ S x) := Kp.mk (by rw [← hS]; exact HS.out)
 clear HS hS
 generalize l.length = n at *
 generalize m.length = k at *
 go_enter Tryz.func52, Tryz.ntmps52
 go_wp2_with fail
 refine r1.out.mono ?_
 clear r1
 rintro e v1 h
 have h := h.congr HS2.out
 obtain ⟨⟨u, h1, h2, ⟨h3, b', rfl, hlr⟩ | ⟨h3, b', p', rfl⟩⟩, hb⟩ := h
 ·have HU := Kp.mk (And.intro h1 (And.intro h2 (And.intro h3 (And.intro hlr hb))))
  clear h1 h2 h3 hlr hb
  obtain ⟨z, hz⟩ : ∃ z, u.length = z := ⟨_, rfl⟩
  have HZ := Kp.mk hz
  rw [hz]
  clear hz
  go_wp2_with fail
  go_ret2
  have hz := HZ.out
  subst hz
  obtain ⟨h1, h2, h3, hlr, hb⟩ := HU.out
  exact ⟨⟨u, h1, h2, .inl ⟨h3, b', rfl, hlr⟩⟩, hb⟩
 ·have HU := Kp.mk (And.intro h1 (And.intro h2 (And.intro h3 hb)))
  clear h1 h2 h3 hb
  go_wp2_with fail
  go_ret2
  obtain ⟨h1, h2, h3, hb⟩ := HU.out
  exact ⟨⟨u, h1, h2, .inr ⟨h3, b', p', rfl⟩⟩, hb⟩

set_option maxHeartbeats 4000000 in
theorem dCpl_bad {c : Int} {p : Nat} (hL : LaidRs w) (hl : InL l) (nl : l.length ≤ maxLen) (al : Lr w a l w) (hc : chkRs l = c) (h0 : ¬ c = 0) :
 Calls Tryz.prog 60 #[.slice a l.length p] w (NoSet c w) := by
 have hw := (Below.refl w.heap.size w).alloc (Nat.le_refl _) (.cells #[.int .i8 (-1), .int .i64 0, .int .i8 1, .int .i64 0] 26)
 have HB := Kp.mk hw
 have HW : Kp (Lr w (some ⟨w.heap.size, 0, none⟩) [wholeR] (w.alloc (.cells #[.int .i8 (-1), .int .i64 0, .int .i8 1, .int .i64 0] 26))) := Kp.mk (lr_one wholeR (Below.refl w.heap.size w))
 have r1 := Kp.mk (dWo_bad (p := 1) (q := p) (hL.below hw).en whole_in hl (by decide) nl HW.out.now (al.step hw).now (by rw [whole_both]; exact hc) h0)
 have f0 := hL.f0; have f1 := hL.f1; have l0 := hL.l0; have l1 := hL.l1
 clear hc h0 hl nl al hw HW hL
 generalize l.length = n at *
 go_enter Tryz.func60, Tryz.ntmps60
 go_wp2_with fail
 refine r1.out.mono ?_
 clear r1
 rintro e v1 ⟨⟨x, y, rfl⟩, hb⟩
 have HB := Kp.mk (HB.out.trans (hb.mono HB.out.size))
 clear hb f0 f1 l0 l1
 go_wp2_with fail
 go_ret2
 exact ⟨⟨_, _, rfl⟩, HB.out⟩
set_option maxHeartbeats 4000000 in
theorem dCpl_is {p : Nat} (hL : LaidRs w) (hl : InL l) (nl : l.length ≤ maxLen) (al : Lr w a l w) (hc : chkRs l = 0) (hp : l.length ≤ p) :
 Calls Tryz.prog 60 #[.slice a l.length p] w (ShortC (fun x => memR [wholeR] x ∧ leftM l x) w) := by
 have hw := (Below.refl w.heap.size w).alloc (Nat.le_refl _) (.cells #[.int .i8 (-1), .int .i64 0, .int .i8 1, .int .i64 0] 26)
 have HB := Kp.mk hw
 have HW : Kp (Lr w (some ⟨w.heap.size, 0, none⟩) [wholeR] (w.alloc (.cells #[.int .i8 (-1), .int .i64 0, .int .i8 1, .int .i64 0] 26))) := Kp.mk (lr_one wholeR (Below.refl w.heap.size w))
 have r1 := Kp.mk (dWo_is (p := 1) (q := p) (hL.below hw) whole_in hl (by decide) nl HW.out.now (al.step hw).now (by rw [whole_both]; exact hc) (by decide) hp)
 have f0 := hL.f0; have f1 := hL.f1; have l0 := hL.l0; have l1 := hL.l1
 obtain ⟨S, hS⟩ : ∃ S : Int → Prop, (fun x => memR [wholeR] x ∧ leftM l x) = S := ⟨_, rfl⟩
 rw [hS] at r1 ⊢
 clear hc hl nl al hw HW hL hp hS
 generalize l.length = n at *
 go_enter Tryz.func60, Tryz.ntmps60
 go_wp2_with fail
 refine r1.out.mono ?_
 clear r1
 rintro e v1 h
 have h := h.from HB.out
 obtain ⟨⟨u, h1, h2, ⟨h3, b', rfl, hlr⟩ | ⟨h3, b', p', rfl⟩⟩, hb⟩ := h
 ·have HU := Kp.mk (And.intro h1 (And.intro h2 (And.intro h3 (And.intro hlr hb))))
  clear h1 h2 h3 hlr hb f0 f1 l0 l1
  obtain ⟨z, hz⟩ : ∃ z, u.length = z := ⟨_, rfl⟩
  have HZ := Kp.mk hz
  rw [hz]
  clear hz
  go_wp2_with fail
  go_ret2
  have hz := HZ.out
  subst hz
  obtain ⟨h1, h2, h3, hlr, hb⟩ := HU.out
  exact ⟨⟨u, h1, h2, .inl ⟨h3, b', rfl, hlr⟩⟩, hb⟩
 ·have HU := Kp.mk (And.intro h1 (And.intro h2 (And.intro h3 hb)))
  clear h1 h2 h3 hb f0 f1 l0 l1
  go_wp2_with fail
  go_ret2
  obtain ⟨h1, h2, h3, hb⟩ := HU.out
  exact ⟨⟨u, h1, h2, .inr ⟨h3, b', p', rfl⟩⟩, hb⟩
set_option maxHeartbeats 4000000 in
theorem dIns_bad {c : Int} {p q : Nat} (hL : LaidEn w) (hl : InL l) (hm : InL m) (nl : l.length ≤ maxLen) (nm : m.length ≤ maxLen) (al : Lr w a l w) (am : Lr w b m w) (hc : bothRs l m = c) (h0 : ¬ c = 0) :
 Calls Tryz.prog 53 #[.slice a l.length p, .slice b m.length q] w fun x w' => x = .returned (.tuple #[.bool false, .int .i64 c]) ∧ Below w.heap.size w w' := by
 have HB := Kp.mk (Below.refl w.heap.size w)
 have r1 := Kp.mk (dBoth_is (p := p) (q := q) hl hm hc nl nm al am hL)
 have t1 : (c != 0) = true := by rw [bne_iff_ne]; exact h0
 clear hc h0 hl hm nl nm al am hL
 generalize l.length = n at *
 generalize m.length = k at *
 go_enter Tryz.func53, Tryz.ntmps53
 go_wp2_with fail
 refine r1.out.mono ?_
 rintro e v1 ⟨rfl, hb⟩
 have HB := Kp.mk (HB.out.trans (hb.mono HB.out.size))
 clear hb r1
 go_wp2_with fail
 go_ret2
 exact ⟨rfl, HB.out⟩
theorem ins_same {u : List Rn} {c : Bool} (hl : InL l) (hm : InL m) (cl : RsCan l) (cm : RsCan m) (hu : IsRs u (fun x => memR l x ∧ memR m x)) (hc : inRs l m = c) : decide (u = l) = c := by
 rw [← hc, Bool.eq_iff_iff, decide_eq_true_iff, in_sub hl hm cl cm]
 constructor
 ·rintro rfl x hx
  exact ((hu.mem x).1 hx).2
 ·intro h
  exact hu.uniq ⟨cl, fun x => ⟨fun hx => ⟨hx, h x hx⟩, fun hx => hx.1⟩⟩
set_option maxHeartbeats 4000000 in
theorem dIns_is {c : Bool} {p q : Nat} (hL : LaidRs w) (hl : InL l) (hm : InL m) (nl : l.length ≤ maxLen) (nm : m.length ≤ maxLen) (al : Lr w a l w) (am : Lr w b m w) (hb0 : bothRs l m = 0) (hc : inRs l m = c) (hp : l.length ≤ p) (hq : m.length ≤ q) :
 Calls Tryz.prog 53 #[.slice a l.length p, .slice b m.length q] w fun x w' => x = .returned (.tuple #[.bool c, .int .i64 0]) ∧ Below w.heap.size w w' := by
 obtain ⟨⟨nl2, cl⟩, nm2, cm⟩ := both_zero hl hm hb0
 have HB := Kp.mk (Below.refl w.heap.size w)
 have r1 := Kp.mk (dBoth_is (p := p) (q := q) hl hm hb0 nl nm al am hL.en)
 have r2 := Kp.mk fun u (hu : Below w.heap.size w u) => dSweep_is kCom_eg kCom_is ⟨(al.step hu).now, hl, hp, nl⟩ ⟨(am.step hu).now, hm, hq, nm⟩ cl cm nl2 nm2 (hL.below hu)
 have HS := Kp.mk fun (u : List Rn) (hu : IsRs u (SK fun x => hasE l x && hasE m x)) => ins_same hl hm cl cm (hu.congr (sk_and cl cm)) hc
 have r3 := Kp.mk fun (v : World) (u : List Rn) (d : Option Addr) (z : Nat) (hu : u.length ≤ maxLen) (hd : decide (u = l) = c) (au : Lr v d u v) (av : Lr v a l v) => dSameS_is (p := z) (q := p) hu hd au av
 have HA := Kp.mk al
 clear hb0 hc hl hm nl nm al am hL hp hq cl cm nl2 nm2
 obtain ⟨n, hn⟩ : ∃ n, l.length = n := ⟨_, rfl⟩
 rw [hn] at r1 r2 r3 ⊢
 generalize m.length = k at *
 clear hn
 go_enter Tryz.func53, Tryz.ntmps53
 go_wp2_with fail
 refine r1.out.mono ?_
 rintro e v1 ⟨rfl, hb⟩
 have HB := Kp.mk (HB.out.trans (hb.mono HB.out.size))
 clear hb r1
 go_wp2_with fail
 refine (r2.out _ HB.out).mono ?_
 clear r2
 rintro e v2 ⟨⟨b', u, c', rfl, hu, hnn, hcc, hx, hlr⟩, hb⟩
 have r4 := Kp.mk (r3.out v2 u b' c' (by omega) (HS.out u hu) hlr.now (HA.out.step (HB.out.trans (hb.mono HB.out.size))).now)
 have HB := Kp.mk (HB.out.trans (hb.mono HB.out.size))
 clear hb r3 hlr hu hnn hcc hx
 generalize u.length = z at *
 go_wp2_with fail
 refine r4.out.mono ?_
 rintro e v3 ⟨rfl, hb⟩
 have HB := Kp.mk (HB.out.trans (hb.mono HB.out.size))
 clear hb r4
 go_wp2_with fail
 go_ret2
 exact ⟨rfl, HB.out⟩
end Go.Proofs.YtndjcmclmhoigaaGreatDoor
namespace Go.Proofs.YtndjcmclmhoigaaGreatDoor
open Go.RowKit
set_option maxRecDepth 100000

variable {w W : World} {a : Option Addr} {l : List Rn}
theorem cnt_app (l m : List Rn) : cntS (l ++ m) = cntS l + cntS m := by
 induction l with
 | nil => show cntS m = 0 + cntS m; omega
 | cons a t ih => show 1 + (a.e + -a.d) + cntS (t ++ m) = 1 + (a.e + -a.d) + cntS t + cntS m; rw [ih]; omega
theorem cnt_pos {l : List Rn} (h : ∀ r, r ∈ l → r.d ≤ r.e) : 0 ≤ cntS l := by
 induction l with
 | nil => exact Int.le_refl 0
 | cons a t ih =>
  have h1 := h a (List.mem_cons.2 (.inl rfl))
  have h2 := ih fun r hr => h r (List.mem_cons.2 (.inr hr))
  show 0 ≤ 1 + (a.e + -a.d) + cntS t
  omega
theorem cnt_upto {l : List Rn} (h : ∀ r, r ∈ l → r.d ≤ r.e) (p : Nat) : cntS (l.take p) ≤ cntS l := by
 have h1 := cnt_app (l.take p) (l.drop p)
 rw [List.take_append_drop] at h1
 have h2 := cnt_pos (l := l.drop p) fun r hr => h r (List.mem_of_mem_drop hr)
 omega
set_option maxHeartbeats 4000000 in
theorem dCnt_bad {c : Int} {p : Nat} (hl : ∀ r, r ∈ l → r.In) (nl : l.length ≤ maxLen) (al : Lr w a l w) (hc : chkRs l = c) (h0 : ¬ c = 0) (hL : LaidEn w) :
 Calls Tryz.prog 62 #[.slice a l.length p] w fun x w' => x = .returned (.tuple #[.int .i64 0, .int .i64 c]) ∧ Below w.heap.size w w' := by
 have HB := Kp.mk (Bl.mk (Below.refl w.heap.size w))
 have r1 := Kp.mk (dChkS_is (cap := p) hl hc nl al hL)
 have t1 : (c != 0) = true := by rw [bne_iff_ne]; exact h0
 clear hc h0 hl nl al hL
 generalize l.length = n at *
 go_enter Tryz.func62, Tryz.ntmps62
 go_wp2_with fail
 refine r1.out.mono ?_
 rintro e v1 ⟨rfl, hb⟩
 have HB := Kp.mk (Bl.step HB.out hb)
 clear hb
 go_wp2_with fail
 go_ret2
 exact ⟨rfl, HB.out.below⟩
theorem fin_any {l : List Rn} : (l.any fun r => decide (¬ (r.f = 0 ∧ r.g = 0))) = true ↔ ¬ FinR l := by
 rw [List.any_eq_true]
 constructor
 ·rintro ⟨r, hr, h1⟩ h2
  exact (decide_eq_true_iff.1 h1) (h2 r hr)
 ·intro h1
  apply Classical.byContradiction
  intro h2
  exact h1 fun r hr => Classical.byContradiction fun h3 => h2 ⟨r, hr, decide_eq_true h3⟩
set_option maxHeartbeats 8000000 in
theorem dCnt_is {n c : Int} {p : Nat} (hl : ∀ r, r ∈ l → r.In) (nl : l.length ≤ maxLen) (al : Lr w a l w) (hc : chkRs l = 0) (hr : CntR l n c) (hL : LaidEn w) :
 Calls Tryz.prog 62 #[.slice a l.length p] w fun x w' => x = .returned (.tuple #[.int .i64 n, .int .i64 c]) ∧ Below w.heap.size w w' := by
 obtain ⟨nl2, cl⟩ := (chkRs_zero hl).1 hc
 have HB := Kp.mk (Below.refl w.heap.size w)
 have HLs := Kp.mk al
 have CL := Kp.mk cl
 have HC := Kp.mk hr
 have HI := Kp.mk hl
 have HE := Kp.mk hL
 have r1 := Kp.mk (dChkS_is (cap := p) hl hc nl al hL)
 have eg : ∀ args w, (callFunc 123 args).run Tryz.prog w = .ok (.enter 123 args) w := enters_of Tryz.func123 (by kernel_rfl) rfl
 obtain ⟨iv, hiv⟩ : ∃ v, (l.any fun r => decide (¬ (r.f = 0 ∧ r.g = 0))) = v := ⟨_, rfl⟩
 have r2 := Kp.mk (fun (u : World) (hu : Below w.heap.size w u) => contains_is (p := fun r => decide (¬ (r.f = 0 ∧ r.g = 0))) (K := 123) (cb := #[]) (c := p) ⟨eg, fun r hr v hv => dInfR_is rfl v⟩ nl (al.step hu).now hiv)
 have hfa := fin_any (l := l)
 rw [hiv] at hfa
 have HFA := Kp.mk hfa
 have KL : Kp (∀ r, r ∈ l → FinR l → r.d ≤ r.e) := Kp.mk (fun r hr hf => (cl.ok r hr).le (hf r hr).1 (hf r hr).2)
 clear hc hl nl al cl hr hL eg hiv hfa
 obtain ⟨k, hkk⟩ : ∃ k, l.length = k := ⟨_, rfl⟩
 rw [hkk] at r1 r2 nl2 ⊢
 go_enter Tryz.func62, Tryz.ntmps62
 go_wp2_with fail
 refine r1.out.mono ?_
 rintro e v1 ⟨rfl, hb⟩
 have HB := Kp.mk (HB.out.trans (hb.mono HB.out.size))
 clear hb r1
 go_wp2_with fail
 refine (r2.out _ HB.out).mono ?_
 rintro e v2 ⟨rfl, hb⟩
 have HB := Kp.mk (HB.out.trans (hb.mono HB.out.size))
 clear hb r2
 cases iv with
 | true =>
  obtain ⟨rfl, rfl⟩ := HC.out.inf (HFA.out.1 rfl)
  go_wp2_with fail
  go_ret2
  exact ⟨rfl, HB.out⟩
 | false =>
  have HF : Kp (FinR l) := Kp.mk (Classical.byContradiction fun h => by have := HFA.out.2 h; cases this)
  have HM : Kp (∀ p, cntS (l.take p) ≤ cntS l) := Kp.mk (cnt_upto fun r hr => KL.out r hr HF.out)
  have HT : Kp (cntS (l.take k) = cntS l) := Kp.mk (by rw [List.take_of_length_le (by omega)])
  have HL := Kp.mk (HLs.out.step HB.out)
  clear HFA HLs HB
  go_wp2_with fail
  go_loopw [5, 19] (fun s i wr => ∃ (p : Nat) (x : Int), p ≤ k ∧ s = .int .i64 x ∧ i = .int .i64 (p : Int) ∧ Kp (cntS (l.take p) = x) ∧ 0 ≤ x ∧ x ≤ 9223372036854775807 ∧ Kp (Lr w a l wr)) (fun _ i _ => k - (intOf i).toNat)
  case atStart => exact ⟨0, 0, by omega, rfl, rfl, Kp.mk (by rw [List.take_zero]; rfl), by omega, by omega, HL⟩
  case round =>
   clear HL
   obtain ⟨q, x, hq, rfl, rfl, HX, x0, x1, HL⟩ := hrel
   by_cases h1 : q < k
   ·have t1 : decide ((q : Int) < (k : Int)) = true := decide_eq_true (by omega)
    have b1 : (q : Int) < (k : Int) := by omega
    obtain ⟨r, hr⟩ : ∃ r, l[q]? = some r := ⟨l[q]'(by omega), List.getElem?_eq_getElem (by omega)⟩
    obtain ⟨g1, s1, rfl⟩ := HL.out.place hr
    have hri := HI.out r (List.mem_of_getElem? hr)
    have hok := CL.out.ok r (List.mem_of_getElem? hr)
    have HFI := Kp.mk (HF.out r (List.mem_of_getElem? hr))
    have hle := hok.le HFI.out.1 HFI.out.2
    have hm1 := HM.out (q + 1)
    have hxx := HX.out
    rw [cnt_take hr, hxx] at hm1
    have d0 := hok.d0
    have d1 := hok.d1
    have e0 := hok.e0
    have e1 := hok.e1
    have wp1 : IntKind.i64.wrap ((q : Int) + 1) = (q : Int) + 1 := IntWalk.i64_in _ (by omega)
    obtain ⟨y, hy⟩ : ∃ y, lenN r = y := ⟨_, rfl⟩
    obtain ⟨ey, hey⟩ : ∃ y, lenC r = y := ⟨_, rfl⟩
    have rc : Kp (∀ u, Below w.heap.size w u → Calls Tryz.prog 31 #[.agg #[.int .i8 r.f, .int .i64 r.d, .int .i8 r.g, .int .i64 r.e]] u fun e w' => e = .returned (.tuple #[.int .i64 y, .int .i64 ey]) ∧ Below u.heap.size u w') := Kp.mk (fun u hw => dLen_ok hri ((chkR_zero hri).2 hok) hy hey u (HE.out.below hw))
    unfold lenN at hy
    unfold lenC at hey
    rw [if_pos ⟨HFI.out.1, HFI.out.2⟩] at hey
    obtain ⟨k0, k1, k2, k3⟩ := HL.out.cells hr
    go_upto_region 10 with fail
    clear k0 k1 k2 k3
    have hbl := (Below.refl wr.heap.size wr).alloc (Nat.le_refl _) (.cells #[.int .i8 r.f, .int .i64 r.d, .int .i8 r.g, .int .i64 r.e] 26)
    have HR := Kp.mk (ro_of (r := r) HL.out.below)
    have HL := Kp.mk (HL.out.step hbl)
    clear hbl
    generalize wr.alloc (.cells #[.int .i8 r.f, .int .i64 r.d, .int .i8 r.g, .int .i64 r.e] 26) = u0 at *
    generalize wr.heap.size = gr at *
    by_cases h2 : r.e - r.d + 1 ≤ 9223372036854775807
    ·rw [if_pos h2] at hey
     rw [if_pos ⟨HFI.out.1, HFI.out.2, h2⟩] at hy
     subst hey
     by_cases h3 : x + y ≤ 9223372036854775807
     ·have ra := add_in x y
      have ra : Kp (∀ u, Calls Tryz.prog 85 #[.int .i64 x, .int .i64 y] u fun e w' => e = .returned (.tuple #[.int .i64 (x + y), .int .i64 0]) ∧ Below u.heap.size u w') := Kp.mk (fun u => ra u (by omega) h3 (by omega) (by omega) (by omega) (by omega))
      have HX : Kp (cntS (l.take (q + 1)) = x + y) := Kp.mk (by rw [cnt_take hr, hxx]; omega)
      have y0 : 0 ≤ x + y := by omega
      obtain ⟨z, hz⟩ : ∃ z, x + y = z := ⟨_, rfl⟩
      rw [hz] at ra HX y0 h3
      clear hri hok hle hm1 hxx d0 d1 e0 e1 hy h2 hz
      obtain ⟨c0, c1, c2, c3⟩ := HR.out.cs
      go_wp2_with fail
      refine (rc.out _ HL.out.below).mono ?_
      rintro e y1 ⟨rfl, hbl⟩
      have HL := Kp.mk (HL.out.step hbl)
      clear hbl c0 c1 c2 c3 HR rc
      go_wp2_with fail
      refine (ra.out _).mono ?_
      rintro e y2 ⟨rfl, hbl⟩
      have HL := Kp.mk (HL.out.step hbl)
      clear hbl ra
      go_wp2_with fail
      go_roundw
      case rel => exact ⟨q + 1, z, by omega, rfl, by go_num, HX, y0, h3, HL⟩
      case measure => simp [intOf]; omega
     ·have ra := add_out x y
      have ra : Kp (∀ u, Calls Tryz.prog 85 #[.int .i64 x, .int .i64 y] u fun e w' => e = .returned (.tuple #[.int .i64 0, .int .i64 15]) ∧ Below u.heap.size u w') := Kp.mk (fun u => ra u (by omega) (by omega) (by omega) (by omega) (by omega))
      obtain ⟨rfl, rfl⟩ := HC.out.over HF.out (by omega)
      clear hri hok hle hm1 hxx d0 d1 e0 e1 hy h2 h3
      obtain ⟨c0, c1, c2, c3⟩ := HR.out.cs
      go_wp2_with fail
      refine (rc.out _ HL.out.below).mono ?_
      rintro e y1 ⟨rfl, hbl⟩
      have HL := Kp.mk (HL.out.step hbl)
      clear hbl c0 c1 c2 c3 HR rc
      go_wp2_with fail
      refine (ra.out _).mono ?_
      rintro e y2 ⟨rfl, hbl⟩
      have HL := Kp.mk (HL.out.step hbl)
      clear hbl ra
      go_wp2_with fail
      go_ret2
      exact ⟨rfl, HL.out.below⟩
    ·rw [if_neg h2] at hey
     subst hey
     obtain ⟨rfl, rfl⟩ := HC.out.over HF.out (by omega)
     clear hri hok hle hm1 hxx d0 d1 e0 e1 hy h2
     obtain ⟨c0, c1, c2, c3⟩ := HR.out.cs
     go_wp2_with fail
     refine (rc.out _ HL.out.below).mono ?_
     rintro e y1 ⟨rfl, hbl⟩
     have HL := Kp.mk (HL.out.step hbl)
     clear hbl c0 c1 c2 c3 HR rc
     go_wp2_with fail
     go_ret2
     exact ⟨rfl, HL.out.below⟩
   ·obtain rfl : q = k := by omega
    have hx := HX.out
    rw [HT.out] at hx
    have hf := HC.out.fits HF.out (by omega)
    rw [hx] at hf
    obtain ⟨rfl, rfl⟩ := hf
    clear hx
    go_wp2_with fail
    go_ret2
    exact ⟨rfl, HL.out.below⟩
end Go.Proofs.YtndjcmclmhoigaaGreatDoor
