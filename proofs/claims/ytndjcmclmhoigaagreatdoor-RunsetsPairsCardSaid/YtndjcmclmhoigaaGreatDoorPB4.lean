/-
 DERIVED. What package runsets gives, as structures of contracts.
 DERIVED. A list of runs that came in: where it lies, its room; parts of it.
 DERIVED. WALK of the law RunsetsOf, given the contracts of package runsets. Written by mkrs1.py.
-/
import Derived.Test.YtndjcmclmhoigaaGreatDoorPA8
import Derived.Test.YtndjcmclmhoigaaGreatDoorPA9
import Derived.Test.YtndjcmclmhoigaaGreatDoorPB1
import Derived.Test.YtndjcmclmhoigaaGreatDoorPRsRefN
import Derived.Test.YtndjcmclmhoigaaGreatDoorPB2
import Derived.Test.YtndjcmclmhoigaaGreatDoorPB3
import Derived.Test.YtndjcmclmhoigaaGreatDoorPA7
import Derived.Test.YtndjcmclmhoigaaGreatDoorPA6
import Derived.Test.YtndjcmclmhoigaaGreatDoorPA3
namespace Go.Proofs.YtndjcmclmhoigaaGreatDoor
open Go.RowKit
set_option maxRecDepth 100000

/-- a set that is handed back, without spare capacity -/
def SetOf (S : Int → Prop) (w : World) (x : Ending) (w' : World) : Prop :=
 (∃ (m : List Rn) (b : Option Addr), IsRs m S ∧ x = .returned (.tuple #[.slice b m.length m.length, .int .i64 0]) ∧ Lr w b m w') ∧ Below w.heap.size w w'
/-- no set, an error -/
def NoSet (c : Int) (w : World) (x : Ending) (w' : World) : Prop := (∃ b p, x = .returned (.tuple #[.slice b 0 p, .int .i64 c])) ∧ Below w.heap.size w w'
/-- a set that is not too long, or error 3 -/
def ShortC (S : Int → Prop) (w : World) (x : Ending) (w' : World) : Prop :=
 (∃ m : List Rn, IsRs m S ∧ m.length ≤ 16777216 ∧ ((m.length ≤ 4096 ∧ ∃ b, x = .returned (.tuple #[.slice b m.length m.length, .int .i64 0]) ∧ Lr w b m w') ∨ (4096 < m.length ∧ ∃ b p, x = .returned (.tuple #[.slice b 0 p, .int .i64 3])))) ∧ Below w.heap.size w w'
def InL (l : List Rn) : Prop := ∀ r, r ∈ l → r.In
/-- what package runsets gives -/
structure SetCore (I : World → Prop) : Prop where
 keep : ∀ {w w' : World}, I w → Below w.heap.size w w' → I w'
 check : ∀ {l : List Rn} {a : Option Addr} {c : Int} {p : Nat} (w : World), I w → InL l → l.length ≤ maxLen → Lr w a l w → chkRs l = c → Calls Tryz.prog 47 #[.slice a l.length p] w fun x w' => x = .returned (.int .i64 c) ∧ Below w.heap.size w w'
 of_bad : ∀ {l : List Rn} {a : Option Addr} {c : Int} {p : Nat} (w : World), I w → InL l → l.length ≤ maxLen → Lr w a l w → ofRs l = c → ¬ c = 0 → Calls Tryz.prog 43 #[.slice a l.length p] w (NoSet c w)
 of_ok : ∀ {l : List Rn} {a : Option Addr} {p : Nat} (w : World), I w → InL l → l.length ≤ maxLen → Lr w a l w → ofRs l = 0 → Calls Tryz.prog 43 #[.slice a l.length p] w (SetOf (memR l) w)
 has : ∀ {l : List Rn} {a : Option Addr} {d : Int} {c : Bool} {p : Nat} (w : World), I w → InL l → l.length ≤ maxLen → Lr w a l w → -9223372036854775808 ≤ d → d ≤ 9223372036854775807 → hasRs l d = c → Calls Tryz.prog 49 #[.slice a l.length p, .int .i64 d] w fun x w' => x = .returned (.bool c) ∧ Below w.heap.size w w'
 same : ∀ {l m : List Rn} {a b : Option Addr} {c : Bool} {p q : Nat} (w : World), I w → l.length ≤ maxLen → m.length ≤ maxLen → Lr w a l w → Lr w b m w → decide (l = m) = c → Calls Tryz.prog 58 #[.slice a l.length p, .slice b m.length q] w fun x w' => x = .returned (.bool c) ∧ Below w.heap.size w w'
 uni_bad : ∀ {l m : List Rn} {a b : Option Addr} {c : Int} {p q : Nat} (w : World), I w → InL l → InL m → l.length ≤ maxLen → m.length ≤ maxLen → Lr w a l w → Lr w b m w → bothRs l m = c → ¬ c = 0 → Calls Tryz.prog 50 #[.slice a l.length p, .slice b m.length q] w (NoSet c w)
 uni : ∀ {l m : List Rn} {a b : Option Addr} {p q : Nat} (w : World), I w → InL l → InL m → l.length ≤ maxLen → m.length ≤ maxLen → Lr w a l w → Lr w b m w → bothRs l m = 0 → l.length ≤ p → m.length ≤ q → Calls Tryz.prog 50 #[.slice a l.length p, .slice b m.length q] w (ShortC (fun x => memR l x ∨ memR m x) w)
 com_bad : ∀ {l m : List Rn} {a b : Option Addr} {c : Int} {p q : Nat} (w : World), I w → InL l → InL m → l.length ≤ maxLen → m.length ≤ maxLen → Lr w a l w → Lr w b m w → bothRs l m = c → ¬ c = 0 → Calls Tryz.prog 51 #[.slice a l.length p, .slice b m.length q] w (NoSet c w)
 com : ∀ {l m : List Rn} {a b : Option Addr} {p q : Nat} (w : World), I w → InL l → InL m → l.length ≤ maxLen → m.length ≤ maxLen → Lr w a l w → Lr w b m w → bothRs l m = 0 → l.length ≤ p → m.length ≤ q → Calls Tryz.prog 51 #[.slice a l.length p, .slice b m.length q] w (ShortC (fun x => memR l x ∧ memR m x) w)
 wo_bad : ∀ {l m : List Rn} {a b : Option Addr} {c : Int} {p q : Nat} (w : World), I w → InL l → InL m → l.length ≤ maxLen → m.length ≤ maxLen → Lr w a l w → Lr w b m w → bothRs l m = c → ¬ c = 0 → Calls Tryz.prog 52 #[.slice a l.length p, .slice b m.length q] w (NoSet c w)
 wo : ∀ {l m : List Rn} {a b : Option Addr} {p q : Nat} (w : World), I w → InL l → InL m → l.length ≤ maxLen → m.length ≤ maxLen → Lr w a l w → Lr w b m w → bothRs l m = 0 → l.length ≤ p → m.length ≤ q → Calls Tryz.prog 52 #[.slice a l.length p, .slice b m.length q] w (ShortC (fun x => memR l x ∧ leftM m x) w)
 cpl_bad : ∀ {l : List Rn} {a : Option Addr} {c : Int} {p : Nat} (w : World), I w → InL l → l.length ≤ maxLen → Lr w a l w → chkRs l = c → ¬ c = 0 → Calls Tryz.prog 60 #[.slice a l.length p] w (NoSet c w)
 cpl : ∀ {l : List Rn} {a : Option Addr} {p : Nat} (w : World), I w → InL l → l.length ≤ maxLen → Lr w a l w → chkRs l = 0 → l.length ≤ p → Calls Tryz.prog 60 #[.slice a l.length p] w (ShortC (fun x => memR [wholeR] x ∧ leftM l x) w)
 ins_bad : ∀ {l m : List Rn} {a b : Option Addr} {c : Int} {p q : Nat} (w : World), I w → InL l → InL m → l.length ≤ maxLen → m.length ≤ maxLen → Lr w a l w → Lr w b m w → bothRs l m = c → ¬ c = 0 → Calls Tryz.prog 53 #[.slice a l.length p, .slice b m.length q] w fun x w' => x = .returned (.tuple #[.bool false, .int .i64 c]) ∧ Below w.heap.size w w'
 ins : ∀ {l m : List Rn} {a b : Option Addr} {c : Bool} {p q : Nat} (w : World), I w → InL l → InL m → l.length ≤ maxLen → m.length ≤ maxLen → Lr w a l w → Lr w b m w → bothRs l m = 0 → inRs l m = c → l.length ≤ p → m.length ≤ q → Calls Tryz.prog 53 #[.slice a l.length p, .slice b m.length q] w fun x w' => x = .returned (.tuple #[.bool c, .int .i64 0]) ∧ Below w.heap.size w w'
 min_bad : ∀ {l : List Rn} {a : Option Addr} {c : Int} {p : Nat} (w : World), I w → InL l → l.length ≤ maxLen → Lr w a l w → chkRs l = c → ¬ c = 0 → Calls Tryz.prog 64 #[.slice a l.length p] w fun x w' => x = .returned (.tuple #[.agg #[.int .i8 0, .int .i64 0], .int .i64 c]) ∧ Below w.heap.size w w'
 min_no : ∀ {a : Option Addr} {p : Nat} (w : World), I w → Lr w a [] w → Calls Tryz.prog 64 #[.slice a 0 p] w fun x w' => x = .returned (.tuple #[.agg #[.int .i8 0, .int .i64 0], .int .i64 17]) ∧ Below w.heap.size w w'
 min : ∀ {l : List Rn} {r : Rn} {a : Option Addr} {p : Nat} (w : World), I w → InL l → l.length ≤ maxLen → Lr w a l w → chkRs l = 0 → l[0]? = some r → Calls Tryz.prog 64 #[.slice a l.length p] w fun x w' => x = .returned (.tuple #[.agg #[.int .i8 r.f, .int .i64 r.d], .int .i64 0]) ∧ Below w.heap.size w w'
 max_bad : ∀ {l : List Rn} {a : Option Addr} {c : Int} {p : Nat} (w : World), I w → InL l → l.length ≤ maxLen → Lr w a l w → chkRs l = c → ¬ c = 0 → Calls Tryz.prog 65 #[.slice a l.length p] w fun x w' => x = .returned (.tuple #[.agg #[.int .i8 0, .int .i64 0], .int .i64 c]) ∧ Below w.heap.size w w'
 max_no : ∀ {a : Option Addr} {p : Nat} (w : World), I w → Lr w a [] w → Calls Tryz.prog 65 #[.slice a 0 p] w fun x w' => x = .returned (.tuple #[.agg #[.int .i8 0, .int .i64 0], .int .i64 17]) ∧ Below w.heap.size w w'
 max : ∀ {l : List Rn} {r : Rn} {a : Option Addr} {p : Nat} (w : World), I w → InL l → l.length ≤ maxLen → Lr w a l w → chkRs l = 0 → l[l.length - 1]? = some r → Calls Tryz.prog 65 #[.slice a l.length p] w fun x w' => x = .returned (.tuple #[.agg #[.int .i8 r.g, .int .i64 r.e], .int .i64 0]) ∧ Below w.heap.size w w'
 cnt_bad : ∀ {l : List Rn} {a : Option Addr} {c : Int} {p : Nat} (w : World), I w → InL l → l.length ≤ maxLen → Lr w a l w → chkRs l = c → ¬ c = 0 → Calls Tryz.prog 62 #[.slice a l.length p] w fun x w' => x = .returned (.tuple #[.int .i64 0, .int .i64 c]) ∧ Below w.heap.size w w'
 cnt : ∀ {l : List Rn} {a : Option Addr} {n c : Int} {p : Nat} (w : World), I w → InL l → l.length ≤ maxLen → Lr w a l w → chkRs l = 0 → CntR l n c → Calls Tryz.prog 62 #[.slice a l.length p] w fun x w' => x = .returned (.tuple #[.int .i64 n, .int .i64 c]) ∧ Below w.heap.size w w'
 text_bad : ∀ {l : List Rn} {a : Option Addr} {c : Int} {p : Nat} (w : World), I w → InL l → l.length ≤ maxLen → Lr w a l w → chkRs l = c → ¬ c = 0 → Calls Tryz.prog 69 #[.slice a l.length p] w fun x w' => x = .returned (.tuple #[.string ⟨#[]⟩, .int .i64 c]) ∧ Below w.heap.size w w'
 text : ∀ {l : List Rn} {a : Option Addr} {p : Nat} (w : World), I w → InL l → l.length ≤ 20 → Lr w a l w → chkRs l = 0 → Calls Tryz.prog 69 #[.slice a l.length p] w fun x w' => x = .returned (.tuple #[.string (bs (textS l)), .int .i64 0]) ∧ Below w.heap.size w w'
 parse_bad : ∀ {l : List UInt8} {m : List Rn} {c : Int} (w : World), I w → l.length ≤ 3000 → (∀ p, p ∈ cut44 l → p.length ≤ 900) → ParS l m c → ¬ c = 0 → Calls Tryz.prog 67 #[.string (bs l)] w (NoSet c w)
 parse : ∀ {l : List UInt8} {m : List Rn} (w : World), I w → l.length ≤ 3000 → (∀ p, p ∈ cut44 l → p.length ≤ 900) → ParS l m 0 → Calls Tryz.prog 67 #[.string (bs l)] w fun x w' => (∃ b, x = .returned (.tuple #[.slice b m.length m.length, .int .i64 0]) ∧ Lr w b m w') ∧ Below w.heap.size w w'
structure SetFns (I : World → Prop) : Prop extends SetCore I where
 lives : ∀ (w : World), I w → Calls Tryz.prog 42 #[] w fun e w' => e = .returned (.bool true) ∧ Below w.heap.size w w'
theorem cut44_part : ∀ {l p : List UInt8}, p ∈ cut44 l → p.length ≤ l.length
 | [], p, h => by
  have h : p ∈ [[]] := h
  rw [List.mem_singleton.1 h]; exact Nat.le_refl _
 | c :: t, p, h => by
  unfold cut44 at h
  split at h
  ·rcases List.mem_cons.1 h with rfl | h
   ·exact Nat.zero_le _
   ·have := cut44_part h; rw [List.length_cons]; omega
  ·rcases List.mem_cons.1 h with rfl | h
   ·cases e : cut44 t with
    | nil => exact absurd e (cut44_ne t)
    | cons q u =>
     have := cut44_part (l := t) (p := q) (by rw [e]; simp)
     simp; omega
   ·have := cut44_part (List.mem_of_mem_tail h); rw [List.length_cons]; omega
theorem part_len {t : List UInt8} (h : t.length ≤ 900) : ∀ p, p ∈ cut44 t → p.length ≤ 900 := fun _ hp => Nat.le_trans (cut44_part hp) h
variable {w : World} {a b : Option Addr} {l m : List Rn}
/-- whether two lists are the same -/
theorem same_any {p q : Nat} {c : Bool} (hn : l.length ≤ maxLen) (hc : decide (l = m) = c) (al : Lr w a l w) (am : Lr w b m w) :
 Calls Tryz.prog 59 #[.slice a l.length p, .slice b m.length q] w fun x w' => x = .returned (.bool c) ∧ Below w.heap.size w w' := by
 by_cases h : l.length = m.length
 ·exact refSSame_is h hn hc al am
 ·have e : c = false := by rw [← hc, decide_eq_false_iff_not]; exact fun x => h (by rw [x])
  rw [e]
  exact refSSame_len h w
set_option maxHeartbeats 1000000 in
theorem gives_set {q : Nat} (hn : l.length ≤ maxLen) (al : Lr w a l w) (am : Lr w b l w) :
 Calls Tryz.prog 46 #[.slice a l.length l.length, .int .i64 0, .slice b l.length q, .int .i64 0] w fun e w' => e = .returned (.bool true) ∧ Below w.heap.size w w' := by
 have r1 := Kp.mk (same_any (p := l.length) (q := q) (c := true) hn (decide_eq_true rfl) al am)
 clear al am
 have hn2 : l.length ≤ 9223372036854775807 := by unfold maxLen at hn; omega
 clear hn
 generalize l.length = n at *
 go_enter Tryz.func46, Tryz.ntmps46
 go_wp2_with fail
 refine r1.out.mono ?_
 rintro e v1 ⟨rfl, hb⟩
 have HB := Kp.mk hb
 clear hb r1
 go_wp2_with fail
 go_ret
 exact ⟨rfl, HB.out⟩
set_option maxHeartbeats 1000000 in
theorem gives_no {c : Int} (h : ¬ c = 0) {n p q : Nat} (w : World) :
 Calls Tryz.prog 46 #[.slice a 0 p, .int .i64 c, .slice b n q, .int .i64 c] w fun e w' => e = .returned (.bool true) ∧ Below w.heap.size w w' := by
 have HB := Kp.mk (Below.refl w.heap.size w)
 have t : (c != 0) = true := by rw [bne_iff_ne]; exact h
 clear h
 go_enter Tryz.func46, Tryz.ntmps46
 go_wp2_with fail
 go_ret
 exact ⟨rfl, HB.out⟩
end Go.Proofs.YtndjcmclmhoigaaGreatDoor
namespace Go.Proofs.YtndjcmclmhoigaaGreatDoor
open Go.RowKit
set_option maxRecDepth 100000

variable {w W : World} {a : Option Addr} {l : List Rn} {cap n : Nat}
/-- a list that came in -/
structure ArgL (w : World) (a : Option Addr) (l : List Rn) (cap : Nat) : Prop where
 lr : Lr w a l w
 inl : ∀ r, r ∈ l → r.In
 room : l.length ≤ cap
 top : cap ≤ maxLen
 non : a = none → l = [] ∧ cap = 0
theorem ArgL.len (h : ArgL w a l cap) : l.length ≤ maxLen := Nat.le_trans h.room h.top
theorem add_zero (ad : Addr) : ad.add 0 = ad := by unfold Addr.add; rw [if_pos rfl]
theorem sizeRn (W : World) : (sizeOf (Tryz.prog.elem 60)).run Tryz.prog W = .ok 4 W := by kernel_rfl
theorem elemRn : Tryz.prog.underlying 60 = some (.slice (Tryz.prog.elem 60)) := by kernel_rfl
/-- l[n:] -/
theorem ArgL.drop (h : ArgL w a l cap) (hn : n ≤ l.length) : ∃ b, (∀ W, (Instr.slice 60 (.slice a l.length cap) (some (.int .i64 (n : Int))) none none).run Tryz.prog W = .ok (.slice b (l.drop n).length (cap - n)) W) ∧
 Lr w b (l.drop n) w ∧ (b = none → l.drop n = [] ∧ cap - n = 0) := by
 refine ⟨if cap = n then a else a.map (·.add (n * 4)), fun W => ?_, ⟨Below.refl _ _, fun p r hp => ?_⟩, fun hb => ?_⟩
 ·rw [run_slice_l (P := Tryz.prog) W 60 a l.length cap elemRn .i64 (n : Int) (by omega) (by omega), sizeRn]
  show Result.ok (sliced a (n : Int).toNat l.length cap 4) W = _
  unfold sliced
  rw [Int.toNat_natCast, List.length_drop]
 ·rw [List.getElem?_drop] at hp
  obtain ⟨g, o, rfl, hg, hc⟩ := h.lr.at4 _ r hp
  have hlt := (List.getElem?_eq_some_iff.1 hp).1
  have hr := h.room
  rw [if_neg (by omega)]
  refine ⟨g, o + n * 4, ?_, hg, by rw [show o + n * 4 + p * 4 = o + (n + p) * 4 by omega]; exact hc⟩
  show some ((⟨g, o, none⟩ : Addr).add (n * 4)) = _
  unfold Addr.add
  by_cases h0 : n * 4 = 0
  ·rw [if_pos h0, h0]; rfl
  ·rw [if_neg h0]
 ·have ha : a = none := by
   by_cases e : cap = n
   ·rw [if_pos e] at hb; exact hb
   ·rw [if_neg e] at hb
    cases a with
    | none => rfl
    | some ad => cases hb
  obtain ⟨h1, h2⟩ := h.non ha
  exact ⟨by rw [h1, List.drop_nil], by omega⟩
/-- l[:n] -/
theorem ArgL.take (h : ArgL w a l cap) (hn : n ≤ l.length) : (∀ W, (Instr.slice 60 (.slice a l.length cap) none (some (.int .i64 (n : Int))) none).run Tryz.prog W = .ok (.slice a (l.take n).length cap) W) ∧
 Lr w a (l.take n) w ∧ (a = none → l.take n = [] ∧ cap = 0) := by
 refine ⟨fun W => ?_, ⟨Below.refl _ _, fun p r hp => ?_⟩, fun ha => ?_⟩
 ·have hr := h.room
  rw [run_slice_h (P := Tryz.prog) W 60 a l.length cap elemRn .i64 (n : Int) (by omega) (by omega), sizeRn]
  show Result.ok (sliced a 0 (n : Int).toNat cap 4) W = _
  unfold sliced
  have e : (if cap = 0 then a else a.map (·.add (0 * 4))) = a := by
   split
   ·rfl
   ·cases a with
    | none => rfl
    | some ad => show some (ad.add (0 * 4)) = _; rw [Nat.zero_mul, add_zero]
  rw [e, Int.toNat_natCast, List.length_take, Nat.min_eq_left hn]
  rfl
 ·rw [List.getElem?_take] at hp
  split at hp
  ·exact h.lr.at4 p r hp
  ·cases hp
 ·obtain ⟨h1, h2⟩ := h.non ha
  exact ⟨by rw [h1, List.take_nil], h2⟩
end Go.Proofs.YtndjcmclmhoigaaGreatDoor
namespace Go.Proofs.YtndjcmclmhoigaaGreatDoor
open Go.RowKit
set_option maxRecDepth 100000

variable {w : World} {a : Option Addr} {l : List Rn} {cap : Nat}
theorem Lr.from' {u W : World} (h : Lr u a l W) (hb : Below w.heap.size w u) : Lr w a l W := ⟨hb.trans (h.below.mono hb.size), h.at4⟩
theorem sets_one {m m2 : List Rn} {S : Int → Prop} (h : IsRs m S) (h2 : IsRs m2 S) : m2 = m := h2.uniq h
theorem isrs_in {m : List Rn} {S : Int → Prop} (h : IsRs m S) : InL m := fun r hr => (h.can.ok r hr).toIn
theorem chk_of {m : List Rn} {S : Int → Prop} (h : IsRs m S) (hn : m.length ≤ 4096) : chkRs m = 0 := (chkRs_zero (isrs_in h)).2 ⟨hn, h.can⟩
/-- which days a set has does not hang on how it is written -/
theorem has_mem {m : List Rn} (hm : InL m) {d : Int} (hok : ∀ r, r ∈ m → r.Ok) : hasRs m d = true ↔ memR m d := by
 unfold hasRs
 rw [List.any_eq_true]
 constructor
 ·rintro ⟨r, hr, h⟩
  exact ⟨r, hr, (of_decide_eq_true h).2⟩
 ·rintro ⟨r, hr, h⟩
  exact ⟨r, hr, decide_eq_true ⟨(chkR_zero (hm r hr)).2 (hok r hr), h⟩⟩
theorem frs_ok : ∀ {l : List Rn}, InL l → frsR l = 0 → ∀ r, r ∈ l → r.Ok
 | [], _, _, r, hr => by cases hr
 | x :: t, hi, h, r, hr => by
  have hx : chkR x = 0 := by
   unfold frsR at h
   by_cases e : chkR x = 0
   ·exact e
   ·simp [e] at h
  have ht : frsR t = 0 := by
   unfold frsR at h
   simpa [hx] using h
  rcases List.mem_cons.1 hr with rfl | hr
  ·exact (chkR_zero (hi r (by simp))).1 hx
  ·exact frs_ok (fun q hq => hi q (List.mem_cons.2 (.inr hq))) ht r hr
theorem of_zero {l : List Rn} (hi : InL l) : ofRs l = 0 ↔ l.length ≤ 4096 ∧ ∀ r, r ∈ l → r.Ok := by
 unfold ofRs
 by_cases h : 4096 < l.length
 ·rw [if_pos h]; exact ⟨fun q => by omega, fun q => by omega⟩
 ·rw [if_neg h]
  refine ⟨fun q => ⟨by omega, frs_ok hi q⟩, fun q => ?_⟩
  have : ∀ t : List Rn, (∀ r, r ∈ t → chkR r = 0) → frsR t = 0 := fun t => by
   induction t with
   | nil => intro _; rfl
   | cons x t ih =>
    intro ht
    unfold frsR
    rw [if_pos (ht x (by simp))]
    exact ih (fun r hr => ht r (List.mem_cons.2 (.inr hr)))
  exact this l (fun r hr => (chkR_zero (hi r hr)).2 (q.2 r hr))
theorem turn_mem (l : List Rn) (n : Nat) (x : Int) : memR (l.drop n ++ l.take n) x ↔ memR l x := by
 rw [memR_append]
 conv => rhs; rw [← List.take_append_drop n l, memR_append]
 exact or_comm
theorem turn_in {l : List Rn} (h : ∀ r, r ∈ l → r.In) (n : Nat) : InL (l.drop n ++ l.take n) := fun r hr => by
 rcases List.mem_append.1 hr with hr | hr
 ·exact h r (List.mem_of_mem_drop hr)
 ·exact h r (List.mem_of_mem_take hr)
theorem turn_len (l : List Rn) {n : Nat} (h : n ≤ l.length) : (l.drop n ++ l.take n).length = l.length := by rw [List.length_append, List.length_drop, List.length_take]; omega
theorem turn_of {l : List Rn} (hi : ∀ r, r ∈ l → r.In) (h : ofRs l = 0) {n : Nat} (hn : n ≤ l.length) : ofRs (l.drop n ++ l.take n) = 0 := by
 obtain ⟨h1, h2⟩ := (of_zero hi).1 h
 refine (of_zero (turn_in hi n)).2 ⟨by rw [turn_len l hn]; exact h1, fun r hr => ?_⟩
 rcases List.mem_append.1 hr with hr | hr
 ·exact h2 r (List.mem_of_mem_drop hr)
 ·exact h2 r (List.mem_of_mem_take hr)
theorem has_same {m : List Rn} (h : IsRs m (memR l)) (hin : InL l) (hok : ∀ r, r ∈ l → r.Ok) (d : Int) : hasRs m d = hasRs l d := by
 rw [Bool.eq_iff_iff, has_mem (isrs_in h) h.can.ok, has_mem hin hok]
 exact h.mem d
theorem refSOf_ok {p : Nat} (hin : ∀ r, r ∈ l → r.In) (hn : l.length ≤ maxLen) (hc : ofRs l = 0) (al : Lr w a l w) :
 Calls Tryz.prog 44 #[.slice a l.length p] w fun x w' =>
  (∃ m b p, x = .returned (.tuple #[.slice b (List.length m) p, .int .i64 0]) ∧ (IsRs m (memR l) ∧ m.length ≤ l.length) ∧ Lr w b m w') ∧ Below w.heap.size w w' :=
 (refSOf_is hin hn hc al).mono fun _ _ ⟨⟨m, b, p, h1, h2, _, h4⟩, hb⟩ => ⟨⟨m, b, p, h1, h2 rfl, h4⟩, hb⟩
theorem of_turn {I : World → Prop} (C : SetFns I) {x : Option Addr} {p n : Nat} (w : World) (hI : I w) (hi : ∀ r, r ∈ l → r.In) (hm : l.length ≤ maxLen) (hc : ofRs l = 0) (hn : n ≤ l.length) (q : Lr w x (l.drop n ++ l.take n) w) :
 Calls Tryz.prog 43 #[.slice x l.length p] w (SetOf (memR l) w) := by
 have := C.of_ok (l := l.drop n ++ l.take n) (p := p) w hI (turn_in hi n) (by rw [turn_len l hn]; exact hm) q (turn_of hi hc hn)
 rw [turn_len l hn] at this
 exact this.mono fun _ _ ⟨⟨m, b, h1, h2, h3⟩, hb⟩ => ⟨⟨m, b, h1.congr (turn_mem l n), h2, h3⟩, hb⟩
set_option maxHeartbeats 4000000 in
theorem lawOf_long {I : World → Prop} (C : SetFns I) (w : World) (hI : I w) {k d : Int} (h : 20 < l.length) (hm : l.length ≤ maxLen) :
 Calls Tryz.prog 8 #[.slice a l.length cap, .int .u8 k, .int .i64 d] w fun x w' => x = .returned (.bool true) ∧ Below w.heap.size w w' := by
 have rl := Kp.mk (C.lives w hI)
 have t1 : decide ((20 : Int) < (l.length : Int)) = true := decide_eq_true (by omega)
 have t2 : (20 : Int) < (l.length : Int) := by omega
 have hm2 : l.length ≤ 9223372036854775807 := by unfold maxLen at hm; omega
 clear C hI h hm
 generalize l.length = n at *
 go_enter Tryz.func8, Tryz.ntmps8
 go_wp2_with fail
 refine rl.out.mono ?_
 rintro e v1 ⟨rfl, hb⟩
 have HB := Kp.mk hb
 clear hb rl
 go_wp2_with fail
 go_ret
 exact ⟨rfl, HB.out⟩
set_option maxHeartbeats 8000000 in
theorem lawOf_bad {I : World → Prop} (C : SetFns I) (w : World) (hI : I w) {k d c : Int} (A : ArgL w a l cap) (h20 : l.length ≤ 20) (d0 : -9223372036854775808 ≤ d) (d1 : d ≤ 9223372036854775807) (hc : ofRs l = c) (h0 : ¬ c = 0) :
 Calls Tryz.prog 8 #[.slice a l.length cap, .int .u8 k, .int .i64 d] w fun x w' => x = .returned (.bool true) ∧ Below w.heap.size w w' := by
 have HI := Kp.mk (fun v (hv : Below w.heap.size w v) => C.keep hI hv)
 have HL := Kp.mk A.lr
 have HA := Kp.mk A
 obtain ⟨h, hh⟩ : ∃ h, hasRs l d = h := ⟨_, rfl⟩
 obtain ⟨ck, hck⟩ : ∃ c, chkRs l = c := ⟨_, rfl⟩
 have r1 := Kp.mk (fun v (hv : Below w.heap.size w v) (q : Lr v a l v) => C.of_bad (p := cap) v (HI.out v hv) A.inl A.len q hc h0)
 have r2 := Kp.mk (fun v (q : Lr v a l v) => refSOf_is (cap := cap) A.inl A.len hc q)
 have r3 := Kp.mk (fun v (q : Lr v a l v) => refSHas_is (cap := cap) A.inl hh A.len d0 d1 q)
 have r4 := Kp.mk (fun v (hv : Below w.heap.size w v) (q : Lr v a l v) => C.check (p := cap) v (HI.out v hv) A.inl A.len q hck)
 have r5 := Kp.mk (fun v (q : Lr v a l v) => refSChk_is (cap := cap) A.inl hck A.len q)
 have r6 := Kp.mk (fun v (hv : Below w.heap.size w v) (q : Lr v a l v) => C.has (p := cap) v (HI.out v hv) A.inl A.len q d0 d1 hh)
 have rl := Kp.mk (fun v (hv : Below w.heap.size w v) => C.lives v (HI.out v hv))
 have t0 : decide ((20 : Int) < (l.length : Int)) = false := decide_eq_false (by omega)
 have t1 : ¬ (20 : Int) < (l.length : Int) := by omega
 have t2 : (c != 0) = true := by rw [bne_iff_ne]; exact h0
 have rg := Kp.mk (fun (v : World) (x y : Option Addr) (i j q : Nat) => gives_no (a := x) (b := y) h0 (n := i) (p := j) (q := q) v)
 have tc : (c == 0) = false := by rw [beq_eq_false_iff_ne]; exact h0
 clear C hI hc A d0 d1 hh hck h0
 generalize l.length = n at *
 cases h
 all_goals
  go_enter Tryz.func8, Tryz.ntmps8
  go_wp2_with fail
  refine (r1.out _ HL.out.below HL.out.now).mono ?_
  rintro e v1 ⟨⟨b1, p1, rfl⟩, hb⟩
  have HL := Kp.mk (HL.out.step hb)
  clear hb
  go_wp2_with fail
  refine (r2.out _ HL.out.now).mono ?_
  rintro e v2 ⟨⟨m2, b2, p2, rfl, _, _, _⟩, hb⟩
  have HL := Kp.mk (HL.out.step hb)
  clear hb
  clear r1 r2
  go_wp2_with fail
  refine (r3.out _ HL.out.now).mono ?_
  rintro e v3 ⟨rfl, hb⟩
  have HL := Kp.mk (HL.out.step hb)
  clear hb
  go_wp2_with fail
  refine (rg.out _ _ _ _ _ _).mono ?_
  rintro e v4 ⟨rfl, hb⟩
  have HL := Kp.mk (HL.out.step hb)
  clear hb
  go_wp2_with fail
  refine (r4.out _ HL.out.below HL.out.now).mono ?_
  rintro e v5 ⟨rfl, hb⟩
  have HL := Kp.mk (HL.out.step hb)
  clear hb
  go_wp2_with fail
  refine (r5.out _ HL.out.now).mono ?_
  rintro e v6 ⟨rfl, hb⟩
  have HL := Kp.mk (HL.out.step hb)
  clear hb
  go_wp2_with fail
  refine (r6.out _ HL.out.below HL.out.now).mono ?_
  rintro e v7 ⟨rfl, hb⟩
  have HL := Kp.mk (HL.out.step hb)
  clear hb
  go_wp2_with fail
  refine (rl.out _ HL.out.below).mono ?_
  rintro e v9 ⟨rfl, hb⟩
  have HL := Kp.mk (HL.out.step hb)
  clear hb rl
  go_wp2_with fail
  go_ret
  exact ⟨rfl, HL.out.below⟩
set_option maxHeartbeats 8000000 in
theorem lawOf_ok {I : World → Prop} (C : SetFns I) (w : World) (hI : I w) {k d : Int} (A : ArgL w a l cap) (h20 : l.length ≤ 20) (k0 : 0 ≤ k) (k1 : k ≤ 255) (d0 : -9223372036854775808 ≤ d) (d1 : d ≤ 9223372036854775807) (hc : ofRs l = 0) :
 Calls Tryz.prog 8 #[.slice a l.length cap, .int .u8 k, .int .i64 d] w fun x w' => x = .returned (.bool true) ∧ Below w.heap.size w w' := by
 have HI := Kp.mk (fun v (hv : Below w.heap.size w v) => C.keep hI hv)
 have HL := Kp.mk A.lr
 have HA := Kp.mk A
 obtain ⟨h, hh⟩ : ∃ h, hasRs l d = h := ⟨_, rfl⟩
 obtain ⟨ck, hck⟩ : ∃ c, chkRs l = c := ⟨_, rfl⟩
 have r1 := Kp.mk (fun v (hv : Below w.heap.size w v) (q : Lr v a l v) => C.of_ok (p := cap) v (HI.out v hv) A.inl A.len q hc)
 have r2 := Kp.mk (fun v (q : Lr v a l v) => refSOf_ok (p := cap) A.inl A.len hc q)
 have r3 := Kp.mk (fun v (q : Lr v a l v) => refSHas_is (cap := cap) A.inl hh A.len d0 d1 q)
 have r4 := Kp.mk (fun v (hv : Below w.heap.size w v) (q : Lr v a l v) => C.check (p := cap) v (HI.out v hv) A.inl A.len q hck)
 have r5 := Kp.mk (fun v (q : Lr v a l v) => refSChk_is (cap := cap) A.inl hck A.len q)
 have r6 := Kp.mk (fun v (hv : Below w.heap.size w v) (q : Lr v a l v) => C.has (p := cap) v (HI.out v hv) A.inl A.len q d0 d1 hh)
 have rl := Kp.mk (fun v (hv : Below w.heap.size w v) => C.lives v (HI.out v hv))
 have t0 : decide ((20 : Int) < (l.length : Int)) = false := decide_eq_false (by omega)
 have t1 : ¬ (20 : Int) < (l.length : Int) := by omega
 have h20n : l.length ≤ 20 := h20
 have HIN := Kp.mk (show InL l from A.inl)
 have r7 := Kp.mk (fun v (hv : Below w.heap.size w v) (j : Nat) (hj : j ≤ l.length) (x : Option Addr) (y : Nat) (q : Lr v x (l.drop j ++ l.take j) v) => of_turn C (p := y) v (HI.out v hv) A.inl A.len hc hj q)
 have HS := Kp.mk (fun (j : Nat) (hj : j ≤ l.length) => A.drop hj)
 have HT := Kp.mk (fun (j : Nat) (hj : j ≤ l.length) => A.take hj)
 have r8 := Kp.mk (fun v (hv : Below w.heap.size w v) (m : List Rn) (x : Option Addr) (p : Nat) (hi : InL m) (hm : m.length ≤ maxLen) (q : Lr v x m v) (hc : chkRs m = 0) => C.check (p := p) v (HI.out v hv) hi hm q hc)
 have r9 := Kp.mk (fun v (hv : Below w.heap.size w v) (m : List Rn) (x : Option Addr) (p : Nat) (hi : InL m) (hm : m.length ≤ maxLen) (q : Lr v x m v) (hc : hasRs m d = h) => C.has (p := p) v (HI.out v hv) hi hm q d0 d1 hc)
 have OK := Kp.mk ((of_zero A.inl).1 hc)
 have HH := Kp.mk hh
 clear C hI hc A d0 d1 hh hck h20
 have rg := Kp.mk (fun (v : World) (m : List Rn) (x y : Option Addr) (q : Nat) (hm : m.length ≤ maxLen) (h1 : Lr v x m v) (h2 : Lr v y m v) => gives_set (q := q) hm h1 h2)
 cases h
 all_goals
  go_enter Tryz.func8, Tryz.ntmps8
  go_wp2_with fail
  refine (r1.out _ HL.out.below HL.out.now).mono ?_
  rintro e v1 ⟨⟨m, b1, hm, rfl, hlr⟩, hb⟩
  have H1 := Kp.mk (hlr.from' HL.out.below)
  have HM := Kp.mk hm
  clear hlr hm r1
  have HL := Kp.mk (HL.out.step hb)
  clear hb
  go_wp2_with fail
  refine (r2.out _ HL.out.now).mono ?_
  rintro e v2 ⟨⟨m2, b2, p2, rfl, ⟨hi2, hl2⟩, hlr⟩, hb⟩
  have em : m = m2 := sets_one hi2 HM.out
  subst em
  have H2 := Kp.mk (hlr.from' HL.out.below)
  have HX : Kp (m.length ≤ maxLen) := Kp.mk (by unfold maxLen; omega)
  have HC : Kp (chkRs m = 0) := Kp.mk (chk_of HM.out (by omega))
  clear hlr hi2 hl2 r2
  have HL := Kp.mk (HL.out.step hb)
  have H1 := Kp.mk (H1.out.step hb)
  clear hb
  go_wp2_with fail
  refine (r3.out _ HL.out.now).mono ?_
  rintro e v3 ⟨rfl, hb⟩
  have HL := Kp.mk (HL.out.step hb)
  have H1 := Kp.mk (H1.out.step hb)
  have H2 := Kp.mk (H2.out.step hb)
  clear hb
  clear r3
  go_wp2_with fail
  refine (rg.out _ _ _ _ _ HX.out H1.out.now H2.out.now).mono ?_
  rintro e v4 ⟨rfl, hb⟩
  have HL := Kp.mk (HL.out.step hb)
  have H1 := Kp.mk (H1.out.step hb)
  have H2 := Kp.mk (H2.out.step hb)
  clear hb
  go_wp2_with fail
  refine (r4.out _ HL.out.below HL.out.now).mono ?_
  rintro e v5 ⟨rfl, hb⟩
  have HL := Kp.mk (HL.out.step hb)
  have H1 := Kp.mk (H1.out.step hb)
  have H2 := Kp.mk (H2.out.step hb)
  clear hb
  go_wp2_with fail
  refine (r5.out _ HL.out.now).mono ?_
  rintro e v6 ⟨rfl, hb⟩
  have HL := Kp.mk (HL.out.step hb)
  have H1 := Kp.mk (H1.out.step hb)
  have H2 := Kp.mk (H2.out.step hb)
  clear hb
  go_wp2_with fail
  refine (r6.out _ HL.out.below HL.out.now).mono ?_
  rintro e v7 ⟨rfl, hb⟩
  have HL := Kp.mk (HL.out.step hb)
  have H1 := Kp.mk (H1.out.step hb)
  have H2 := Kp.mk (H2.out.step hb)
  clear hb
  clear r4 r5 r6
  have HM2 := Kp.mk ((has_same HM.out HIN.out OK.out.2 d).trans HH.out)
  by_cases hz : l.length = 0
  ·have t2 : decide ((0 : Int) < (l.length : Int)) = false := decide_eq_false (by omega)
   have t4 : decide (0 < l.length) = false := decide_eq_false (by omega)
   clear hz
   go_upto_region 13 with fail
   clear t2 t4
   obtain ⟨b5, hs1', hs1l, hs1n⟩ := HS.out 0 (Nat.zero_le _)
   obtain ⟨hs2', hs2l, hs2n⟩ := HT.out 0 (Nat.zero_le _)
   have hs1 : ∀ W, (Instr.slice 60 (.slice a l.length cap) (some (.int .i64 0)) none none).run Tryz.prog W = .ok (.slice b5 (l.drop 0).length (cap - 0)) W := fun W => hs1' W
   have hs2 : ∀ W, (Instr.slice 60 (.slice a l.length cap) none (some (.int .i64 0)) none).run Tryz.prog W = .ok (.slice a (l.take 0).length cap) W := fun W => hs2' W
   clear hs1' hs2'
   have E1 := Kp.mk hs1l
   have N1 := Kp.mk hs1n
   have E2 := Kp.mk hs2l
   have N2 := Kp.mk hs2n
   clear hs1l hs1n hs2l hs2n
   have hb := (Below.refl v7.heap.size v7).drew
   have HL := Kp.mk (HL.out.step hb)
   have H1 := Kp.mk (H1.out.step hb)
   have H2 := Kp.mk (H2.out.step hb)
   clear hb
   refine wp_region_held_drew (S := fun _ => True) (by kernel_rfl) trivial (fun hHeld => ?_)
   refine tk 0 ?_ rfl hHeld ?_ ?_
   rotate_left
   ·(intro w hSw; go_simp; try with_reducible rfl)
   try simp only [pt]
   refine tk 1 ?_ rfl hHeld ?_ ?_
   rotate_left
   ·(intro w hSw; go_simp; try with_reducible rfl)
   try simp only [pt]
   refine tk 2 ?_ rfl hHeld ?_ ?_
   rotate_left
   ·(intro w hSw; go_simp; try with_reducible rfl)
   try simp only [pt]
   refine tk 4 ?_ rfl hHeld ?_ ?_
   rotate_left
   ·(intro w hSw; go_simp; try with_reducible rfl)
   try simp only [pt]
   refine tk 5 ?_ rfl hHeld ?_ ?_
   rotate_left
   ·(intro w hSw; go_simp; try with_reducible rfl)
   try simp only [pt]
   refine tk 6 ?_ rfl hHeld ?_ ?_
   rotate_left
   ·(intro w hSw; go_simp; try with_reducible rfl)
   try simp only [pt]
   refine rd [3] ?_
   refine AllReadyH.cons (dropAt rfl) (fun K hK => ?_) AllReadyH.nil
   refine wp_append_ls (.const (.slice none 0 0)) (.tmp 67) rfl (ag_new v7.drew) (E1.out.step HL.out.below) N1.out rfl (by first | rfl | (show Value.slice b5 (l.length - j) (cap - j) = _; rw [List.length_drop])) (by rw [List.length_drop, List.length_nil]; omega) (fun vn1 y1 hg => ?_)
   have HG : Kp (Ag v7.drew (l.drop 0) vn1 y1) := Kp.mk hg
   have HLz := HL
   have HL := Kp.mk (HLz.out.step HG.out.below)
   have H1z := H1
   have H1 := Kp.mk (H1z.out.step HG.out.below)
   have H2z := H2
   have H2 := Kp.mk (H2z.out.step HG.out.below)
   clear hg
   refine hK.out _ _ trivial (fun hHeld => ?_)
   clear hK K
   try simp only [pt]
   refine rd [7] ?_
   refine AllReadyH.cons (dropAt rfl) (fun K hK => ?_) AllReadyH.nil
   refine wp_append_ls (.tmp 68) (.tmp 71) rfl HG.out (E2.out.step HL.out.below) N2.out rfl (by first | rfl | (show Value.slice a (min j l.length) cap = _; rw [List.length_take]) | (show Value.slice a j cap = _; rw [List.length_take, Nat.min_eq_left hjl])) (by rw [List.length_drop, List.length_take]; omega) (fun vn2 y2 hg => ?_)
   have HG := Kp.mk hg
   have HL := Kp.mk (HLz.out.step HG.out.below)
   have H1 := Kp.mk (H1z.out.step HG.out.below)
   have H2 := Kp.mk (H2z.out.step HG.out.below)
   clear hg
   refine hK.out _ _ trivial (fun hHeld => ?_)
   clear hK K
   try simp only [pt]
   obtain ⟨a3, c3, rfl, hr3, _⟩ := HG.out.row HLz.out.below
   clear HG HLz H1z H2z
   refine rd [8] ?_
   refine AllReadyH.cons (dropAt rfl) (fun K hK => ?_) AllReadyH.nil
   go_simp
   go_at_call 43
   with_reducible refine (r7.out _ HL.out.below 0 (Nat.zero_le _) a3 c3 hr3.now).mono ?_
   rintro e y3 ⟨⟨m3, b3, hm3, rfl, hlr3⟩, hb⟩
   have em : m = m3 := sets_one hm3 HM.out
   subst em
   have H3 := Kp.mk (hlr3.from' HL.out.below)
   clear hlr3 hm3 hr3 hHeld
   have HL := Kp.mk (HL.out.step hb)
   have H1 := Kp.mk (H1.out.step hb)
   have H2 := Kp.mk (H2.out.step hb)
   clear hb
   go_wp2_with fail
   refine hK.out _ _ trivial (fun hHeld => ?_)
   clear hK K
   try simp only [pt]
   refine tk 9 ?_ rfl hHeld ?_ ?_
   rotate_left
   ·(intro w hSw; go_simp; try with_reducible rfl)
   try simp only [pt]
   refine tk 10 ?_ rfl hHeld ?_ ?_
   rotate_left
   ·(intro w hSw; go_simp; try with_reducible rfl)
   try simp only [pt]
   refine tk 11 ?_ rfl hHeld ?_ ?_
   rotate_left
   ·(intro w hSw; go_simp; try with_reducible rfl)
   try simp only [pt]
   refine tk 12 ?_ rfl hHeld ?_ ?_
   rotate_left
   ·(intro w hSw; go_simp; try with_reducible rfl)
   try simp only [pt]
   refine tk 13 ?_ rfl hHeld ?_ ?_
   rotate_left
   ·(intro w hSw; go_simp; try with_reducible rfl)
   try simp only [pt]
   refine wpAnyH_done (by kernel_rfl) ?_ _
   clear hHeld hs1 hs2
   go_wp2_with fail
   refine (rg.out _ _ _ _ _ HX.out H3.out.now H2.out.now).mono ?_
   rintro e v11 ⟨rfl, hb⟩
   have HL := Kp.mk (HL.out.step hb)
   have H1 := Kp.mk (H1.out.step hb)
   have H2 := Kp.mk (H2.out.step hb)
   have H3 := Kp.mk (H3.out.step hb)
   clear hb
   go_wp2_with fail
   refine (r8.out _ HL.out.below m _ _ (isrs_in HM.out) HX.out H1.out.now HC.out).mono ?_
   rintro e v12 ⟨rfl, hb⟩
   have HL := Kp.mk (HL.out.step hb)
   have H1 := Kp.mk (H1.out.step hb)
   have H2 := Kp.mk (H2.out.step hb)
   have H3 := Kp.mk (H3.out.step hb)
   clear hb
   go_wp2_with fail
   refine (r9.out _ HL.out.below m _ _ (isrs_in HM.out) HX.out H1.out.now HM2.out).mono ?_
   rintro e v13 ⟨rfl, hb⟩
   have HL := Kp.mk (HL.out.step hb)
   have H1 := Kp.mk (H1.out.step hb)
   have H2 := Kp.mk (H2.out.step hb)
   have H3 := Kp.mk (H3.out.step hb)
   clear hb
   go_wp2_with fail
   refine (rl.out _ HL.out.below).mono ?_
   rintro e v14 ⟨rfl, hb⟩
   have HL := Kp.mk (HL.out.step hb)
   have H1 := Kp.mk (H1.out.step hb)
   have H2 := Kp.mk (H2.out.step hb)
   have H3 := Kp.mk (H3.out.step hb)
   clear hb
   go_wp2_with fail
   go_ret
   exact ⟨rfl, HL.out.below⟩
  ·have t2 : decide ((0 : Int) < (l.length : Int)) = true := decide_eq_true (by omega)
   have t3 : (0 : Int) < (l.length : Int) := by omega
   have t4 : decide (0 < l.length) = true := decide_eq_true (by omega)
   have t5 : ¬ (l.length : Int) = 0 := by omega
   go_upto_region 13 with fail
   clear t2 t3 t4 t5
   obtain ⟨j, hj, hjl⟩ : ∃ j : Nat, k % (l.length : Int) = (j : Int) ∧ j ≤ l.length := ⟨(k % (l.length : Int)).toNat, by
    have h1 := Int.emod_nonneg k (show (l.length : Int) ≠ 0 by omega)
    have h2 := Int.emod_lt_of_pos k (show (0 : Int) < (l.length : Int) by omega)
    omega, by
    have h1 := Int.emod_nonneg k (show (l.length : Int) ≠ 0 by omega)
    have h2 := Int.emod_lt_of_pos k (show (0 : Int) < (l.length : Int) by omega)
    omega⟩
   rw [hj]
   clear hj
   obtain ⟨b5, hs1, hs1l, hs1n⟩ := HS.out j hjl
   obtain ⟨hs2, hs2l, hs2n⟩ := HT.out j hjl
   have E1 := Kp.mk hs1l
   have N1 := Kp.mk hs1n
   have E2 := Kp.mk hs2l
   have N2 := Kp.mk hs2n
   clear hs1l hs1n hs2l hs2n
   have hb := (Below.refl v7.heap.size v7).drew
   have HL := Kp.mk (HL.out.step hb)
   have H1 := Kp.mk (H1.out.step hb)
   have H2 := Kp.mk (H2.out.step hb)
   clear hb
   refine wp_region_held_drew (S := fun _ => True) (by kernel_rfl) trivial (fun hHeld => ?_)
   refine tk 0 ?_ rfl hHeld ?_ ?_
   rotate_left
   ·(intro w hSw; go_simp; try with_reducible rfl)
   try simp only [pt]
   refine tk 1 ?_ rfl hHeld ?_ ?_
   rotate_left
   ·(intro w hSw; go_simp; try with_reducible rfl)
   try simp only [pt]
   refine tk 2 ?_ rfl hHeld ?_ ?_
   rotate_left
   ·(intro w hSw; go_simp; try with_reducible rfl)
   try simp only [pt]
   refine tk 4 ?_ rfl hHeld ?_ ?_
   rotate_left
   ·(intro w hSw; go_simp; try with_reducible rfl)
   try simp only [pt]
   refine tk 5 ?_ rfl hHeld ?_ ?_
   rotate_left
   ·(intro w hSw; go_simp; try with_reducible rfl)
   try simp only [pt]
   refine tk 6 ?_ rfl hHeld ?_ ?_
   rotate_left
   ·(intro w hSw; go_simp; try with_reducible rfl)
   try simp only [pt]
   refine rd [3] ?_
   refine AllReadyH.cons (dropAt rfl) (fun K hK => ?_) AllReadyH.nil
   refine wp_append_ls (.const (.slice none 0 0)) (.tmp 67) rfl (ag_new v7.drew) (E1.out.step HL.out.below) N1.out rfl (by first | rfl | (show Value.slice b5 (l.length - j) (cap - j) = _; rw [List.length_drop])) (by rw [List.length_drop, List.length_nil]; omega) (fun vn1 y1 hg => ?_)
   have HG : Kp (Ag v7.drew (l.drop j) vn1 y1) := Kp.mk hg
   have HLz := HL
   have HL := Kp.mk (HLz.out.step HG.out.below)
   have H1z := H1
   have H1 := Kp.mk (H1z.out.step HG.out.below)
   have H2z := H2
   have H2 := Kp.mk (H2z.out.step HG.out.below)
   clear hg
   refine hK.out _ _ trivial (fun hHeld => ?_)
   clear hK K
   try simp only [pt]
   refine rd [7] ?_
   refine AllReadyH.cons (dropAt rfl) (fun K hK => ?_) AllReadyH.nil
   refine wp_append_ls (.tmp 68) (.tmp 71) rfl HG.out (E2.out.step HL.out.below) N2.out rfl (by first | rfl | (show Value.slice a (min j l.length) cap = _; rw [List.length_take]) | (show Value.slice a j cap = _; rw [List.length_take, Nat.min_eq_left hjl])) (by rw [List.length_drop, List.length_take]; omega) (fun vn2 y2 hg => ?_)
   have HG := Kp.mk hg
   have HL := Kp.mk (HLz.out.step HG.out.below)
   have H1 := Kp.mk (H1z.out.step HG.out.below)
   have H2 := Kp.mk (H2z.out.step HG.out.below)
   clear hg
   refine hK.out _ _ trivial (fun hHeld => ?_)
   clear hK K
   try simp only [pt]
   obtain ⟨a3, c3, rfl, hr3, _⟩ := HG.out.row HLz.out.below
   clear HG HLz H1z H2z
   refine rd [8] ?_
   refine AllReadyH.cons (dropAt rfl) (fun K hK => ?_) AllReadyH.nil
   go_simp
   go_at_call 43
   with_reducible refine (r7.out _ HL.out.below j hjl a3 c3 hr3.now).mono ?_
   rintro e y3 ⟨⟨m3, b3, hm3, rfl, hlr3⟩, hb⟩
   have em : m = m3 := sets_one hm3 HM.out
   subst em
   have H3 := Kp.mk (hlr3.from' HL.out.below)
   clear hlr3 hm3 hr3 hHeld
   have HL := Kp.mk (HL.out.step hb)
   have H1 := Kp.mk (H1.out.step hb)
   have H2 := Kp.mk (H2.out.step hb)
   clear hb
   go_wp2_with fail
   refine hK.out _ _ trivial (fun hHeld => ?_)
   clear hK K
   try simp only [pt]
   refine tk 9 ?_ rfl hHeld ?_ ?_
   rotate_left
   ·(intro w hSw; go_simp; try with_reducible rfl)
   try simp only [pt]
   refine tk 10 ?_ rfl hHeld ?_ ?_
   rotate_left
   ·(intro w hSw; go_simp; try with_reducible rfl)
   try simp only [pt]
   refine tk 11 ?_ rfl hHeld ?_ ?_
   rotate_left
   ·(intro w hSw; go_simp; try with_reducible rfl)
   try simp only [pt]
   refine tk 12 ?_ rfl hHeld ?_ ?_
   rotate_left
   ·(intro w hSw; go_simp; try with_reducible rfl)
   try simp only [pt]
   refine tk 13 ?_ rfl hHeld ?_ ?_
   rotate_left
   ·(intro w hSw; go_simp; try with_reducible rfl)
   try simp only [pt]
   refine wpAnyH_done (by kernel_rfl) ?_ _
   clear hHeld hs1 hs2
   go_wp2_with fail
   refine (rg.out _ _ _ _ _ HX.out H3.out.now H2.out.now).mono ?_
   rintro e v11 ⟨rfl, hb⟩
   have HL := Kp.mk (HL.out.step hb)
   have H1 := Kp.mk (H1.out.step hb)
   have H2 := Kp.mk (H2.out.step hb)
   have H3 := Kp.mk (H3.out.step hb)
   clear hb
   go_wp2_with fail
   refine (r8.out _ HL.out.below m _ _ (isrs_in HM.out) HX.out H1.out.now HC.out).mono ?_
   rintro e v12 ⟨rfl, hb⟩
   have HL := Kp.mk (HL.out.step hb)
   have H1 := Kp.mk (H1.out.step hb)
   have H2 := Kp.mk (H2.out.step hb)
   have H3 := Kp.mk (H3.out.step hb)
   clear hb
   go_wp2_with fail
   refine (r9.out _ HL.out.below m _ _ (isrs_in HM.out) HX.out H1.out.now HM2.out).mono ?_
   rintro e v13 ⟨rfl, hb⟩
   have HL := Kp.mk (HL.out.step hb)
   have H1 := Kp.mk (H1.out.step hb)
   have H2 := Kp.mk (H2.out.step hb)
   have H3 := Kp.mk (H3.out.step hb)
   clear hb
   go_wp2_with fail
   refine (rl.out _ HL.out.below).mono ?_
   rintro e v14 ⟨rfl, hb⟩
   have HL := Kp.mk (HL.out.step hb)
   have H1 := Kp.mk (H1.out.step hb)
   have H2 := Kp.mk (H2.out.step hb)
   have H3 := Kp.mk (H3.out.step hb)
   clear hb
   go_wp2_with fail
   go_ret
   exact ⟨rfl, HL.out.below⟩
theorem lawOf_any {I : World → Prop} (C : SetFns I) {k d : Int} (A : ArgL w a l cap) (hI : I w) (k0 : 0 ≤ k) (k1 : k ≤ 255) (d0 : -9223372036854775808 ≤ d) (d1 : d ≤ 9223372036854775807) :
 Calls Tryz.prog 8 #[.slice a l.length cap, .int .u8 k, .int .i64 d] w fun x w' => x = .returned (.bool true) ∧ Below w.heap.size w w' := by
 by_cases h : 20 < l.length
 ·exact lawOf_long C w hI h A.len
 ·by_cases hc : ofRs l = 0
  ·exact lawOf_ok C w hI A (by omega) k0 k1 d0 d1 hc
  ·exact lawOf_bad C w hI A (by omega) d0 d1 rfl hc
end Go.Proofs.YtndjcmclmhoigaaGreatDoor
