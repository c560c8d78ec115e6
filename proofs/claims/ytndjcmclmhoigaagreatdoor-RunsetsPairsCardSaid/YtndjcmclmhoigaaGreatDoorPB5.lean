/-
 DERIVED. CONTRACTS of package ints: isText, Parse, Text.
 DERIVED. CONTRACTS of package ints that later layers call: differ.
 DERIVED. Blocks made one behind another: what was there stays.
 DERIVED. CONTRACTS of package ints that later layers call: sums.
-/
import Derived.Test.YtndjcmclmhoigaaGreatDoorPA1
import Derived.Test.YtndjcmclmhoigaaGreatDoorPShelf
import Derived.WalkSmall
import Derived.Lib.AppendIntMem
import Derived.Lib.AtoiErrMem
import Derived.Lib.Hide
import Derived.BigQuiet
import Derived.Deep.QuietTactic
import Derived.Test.YtndjcmclmhoigaaGreatDoorRows
import Derived.ProofKit
import Derived.OwnWalk
namespace Go.Proofs.YtndjcmclmhoigaaGreatDoor.I1
open Go.RowKit
set_option maxRecDepth 100000

/-- a pair of a number and an error, as it is returned -/
abbrev two (n e : Int) : Value := .tuple #[.int .i64 n, .int .i64 e]

theorem trim_any (s : ByteArray) (w : World) (hs : s.size ≤ 9223372036854775807) :
 Calls Tryz.prog 179 #[.string s, .string ⟨#[48, 49, 50, 51, 52, 53, 54, 55, 56, 57]⟩] w fun e w' => e = .returned (.string ⟨(Lib.trimS s.data.toList [48, 49, 50, 51, 52, 53, 54, 55, 56, 57]).toArray⟩) ∧ Below w.heap.size w w' :=
 Any.strings_Trim_laid Tryz.lays160 (by kernel_rfl) s ⟨#[48, 49, 50, 51, 52, 53, 54, 55, 56, 57]⟩ w hs (by decide) (ascii_of_all (by decide))

set_option maxHeartbeats 400000 in
theorem isText_zero (w : World) :
 Calls Tryz.prog 162 #[.string ⟨#[48]⟩] w fun e w' => e = .returned (.bool true) ∧ Below w.heap.size w w' := by
 go_enter Tryz.func162, Tryz.ntmps162
 go_wp2_with fail
 go_ret
 exact ⟨rfl, Below.refl _ _⟩

theorem trimPrefix_is {s : ByteArray} {d : List UInt8} (h : Lib.trimPrefix s.data.toList [45] = d) (w : World) :
 Calls Tryz.prog 178 #[.string s, .string ⟨#[45]⟩] w fun e w' => e = .returned (.string ⟨d.toArray⟩) ∧ w = w' := by
 subst h
 exact (Tryz.strings_TrimPrefix s ⟨#[45]⟩ w).mono fun _ _ h => ⟨h.1, h.2.symm⟩
theorem trim_is {d t : List UInt8} (h : Lib.trimS d cs10 = t) (w : World) (hs : d.length ≤ 9223372036854775807) :
 Calls Tryz.prog 179 #[.string ⟨d.toArray⟩, .string ⟨#[48, 49, 50, 51, 52, 53, 54, 55, 56, 57]⟩] w fun e w' => e = .returned (.string ⟨t.toArray⟩) ∧ Below w.heap.size w w' := by
 subst h
 exact trim_any ⟨d.toArray⟩ w (by simpa [ByteArray.size] using hs)

set_option maxHeartbeats 400000 in
theorem isText_empty (s : ByteArray) (w : World) (h0 : (s.toList == [48]) = false) (hd : Lib.trimPrefix s.data.toList [45] = []) :
 Calls Tryz.prog 162 #[.string s] w fun e w' => e = .returned (.bool false) ∧ Below w.heap.size w w' := by
 have HD := Lib.hid hd; clear hd
 go_enter Tryz.func162, Tryz.ntmps162
 go_wp2_with fail
 refine (trimPrefix_is HD.out _).mono ?_
 rintro e w' ⟨rfl, rfl⟩
 go_wp2_with fail
 go_ret
 exact ⟨rfl, Below.refl _ _⟩
set_option maxHeartbeats 400000 in
theorem isText_lead (s : ByteArray) (r : List UInt8) (w : World) (h0 : (s.toList == [48]) = false) (hd : Lib.trimPrefix s.data.toList [45] = 48 :: r) :
 Calls Tryz.prog 162 #[.string s] w fun e w' => e = .returned (.bool false) ∧ Below w.heap.size w w' := by
 have HD := Lib.hid hd; clear hd
 go_enter Tryz.func162, Tryz.ntmps162
 go_wp2_with fail
 refine (trimPrefix_is HD.out _).mono ?_
 rintro e w' ⟨rfl, rfl⟩
 go_wp2_with fail
 go_ret
 exact ⟨rfl, Below.refl _ _⟩
set_option maxHeartbeats 400000 in
theorem isText_rest (s : ByteArray) (c : UInt8) (r t : List UInt8) (w : World) (hs : (c :: r).length ≤ 9223372036854775807) (h0 : (s.toList == [48]) = false) (hd : Lib.trimPrefix s.data.toList [45] = c :: r) (hc : ((c.toNat : Int) != 48) = true) (ht : Lib.trimS (c :: r) cs10 = t) (b : Bool) (hb : t.isEmpty = b) :
 Calls Tryz.prog 162 #[.string s] w fun e w' => e = .returned (.bool b) ∧ Below w.heap.size w w' := by
 have HD := Lib.hid hd; clear hd
 have HT := Lib.hid ht; clear ht
 have HB := Lib.hid hb; clear hb
 go_enter Tryz.func162, Tryz.ntmps162
 go_wp2_with fail
 refine (trimPrefix_is HD.out _).mono ?_
 rintro e w' ⟨rfl, rfl⟩
 go_wp2_with fail
 ·exfalso
  rename_i h
  have g : (c.toNat : Int) = 48 := h
  rw [g] at hc
  exact absurd hc (by decide)
 ·refine (trim_is HT.out _ hs).mono ?_
  rintro e w' ⟨rfl, hb1⟩
  go_wp2_with fail
  go_ret
  exact ⟨ret_bool (by show ((c.toNat : Int) != 48 && t.isEmpty) = b; rw [hc, Bool.true_and]; exact HB.out), hb1⟩

theorem trimPrefix_len (l : List UInt8) : (Lib.trimPrefix l [45]).length ≤ l.length := by
 unfold Lib.trimPrefix
 split
 ·simp
 ·omega
theorem isText_any (s : ByteArray) (w : World) (hs : s.size ≤ 9223372036854775807) :
 Calls Tryz.prog 162 #[.string s] w fun e w' => e = .returned (.bool (textB s.data.toList)) ∧ Below w.heap.size w w' := by
 have hl := trimPrefix_len s.data.toList
 by_cases h0 : s.data.toList = [48]
 ·have : s = ⟨#[48]⟩ := by
   obtain ⟨⟨l⟩⟩ := s
   simp at h0; subst h0; rfl
  subst this
  exact isText_zero w
 ·have h2 : (s.data.toList == [48]) = false := by simp [h0]
  have h1 : (s.toList == [48]) = false := by rw [ByteArray.toList_eq]; exact h2
  unfold textB
  rw [h2, Bool.false_or]
  cases hd : Lib.trimPrefix s.data.toList [45] with
  | nil => exact isText_empty s w h1 hd
  | cons c r =>
   by_cases hc : (c.toNat : Int) = 48
   ·have : c = 48 := UInt8.toNat_inj.1 (by simpa using (by omega : c.toNat = 48))
    subst this
    exact isText_lead s r w h1 hd
   ·have hc1 : ((c.toNat : Int) != 48) = true := by simp; omega
    show Calls _ _ _ _ fun e w' => e = .returned (.bool ((c.toNat : Int) != 48 && _)) ∧ _
    rw [hc1, Bool.true_and]
    rw [hd] at hl
    exact isText_rest s c r _ w (by have : s.data.toList.length = s.size := Array.length_toList
                                    omega) h1 hd hc1 rfl _ rfl

/-- what the package-level variables of the library read as -/
structure Laid (w : World) : Prop where
 range : ∃ tp p, w.var? Tryz.prog "strconv.ErrRange" = some #[.iface tp p]
 pow : Lib.TabIs Tryz.prog w "internal/strconv.uint64pow10" .u64 Lib.pow10Tab
 size : 9 < w.heap.size ∧ 7 < w.heap.size
theorem gRange : Tryz.prog.globalNamed "strconv.ErrRange" = some 9 := by kernel_rfl
theorem gPow : Tryz.prog.globalNamed "internal/strconv.uint64pow10" = some 7 := by kernel_rfl
theorem Laid.below {w w' : World} (h : Laid w) (hb : Below w.heap.size w w') : Laid w' where
 range := by
  obtain ⟨tp, p, hv⟩ := h.range
  exact ⟨tp, p, var?_below hb gRange h.size.1 hv⟩
 pow := var?_below hb gPow h.size.2 h.pow
 size := ⟨Nat.lt_of_lt_of_le h.size.1 hb.size, Nat.lt_of_lt_of_le h.size.2 hb.size⟩

theorem isText_is {s : ByteArray} {b : Bool} (h : textB s.data.toList = b) (w : World) (hs : s.size ≤ 9223372036854775807) :
 Calls Tryz.prog 162 #[.string s] w fun e w' => e = .returned (.bool b) ∧ Below w.heap.size w w' := h ▸ isText_any s w hs

set_option maxHeartbeats 400000 in
theorem parse_no (s : ByteArray) (w : World) (hs : s.size ≤ 9223372036854775807) (h : textB s.data.toList = false) :
 Calls Tryz.prog 140 #[.string s] w fun e w' => e = .returned (two 0 5) ∧ Below w.heap.size w w' := by
 have H := Lib.hid h; clear h
 go_enter Tryz.func140, Tryz.ntmps140
 go_wp2_with fail
 refine (isText_is H.out _ hs).mono ?_
 rintro e w' ⟨rfl, hb1⟩
 go_wp2_with fail
 go_ret2
 exact ⟨rfl, hb1⟩
theorem below_bytes {w w' : World} (h : w' = w ∨ ∃ t, w' = Lib.bytesWorld w 5 t) : Below w.heap.size w w' := by
 rcases h with rfl | ⟨t, rfl⟩
 ·exact Below.refl _ _
 ·exact Lib.bytesWorld_below _ _ _
set_option maxHeartbeats 400000 in
theorem parse_ok (s : ByteArray) (v : Int) (w : World) (hs : s.size ≤ 281474976710656) (h : textB s.data.toList = true) (hp : Lib.parseIntB 64 s.data.toList = .ok v) :
 Calls Tryz.prog 140 #[.string s] w fun e w' => e = .returned (two v 0) ∧ Below w.heap.size w w' := by
 have H := Lib.hid h; clear h
 have HP := Lib.hid hp; clear hp
 go_enter Tryz.func140, Tryz.ntmps140
 go_wp2_with fail
 refine (isText_is H.out _ (by omega)).mono ?_
 rintro e w1 ⟨rfl, hb1⟩
 go_wp2_with fail
 refine (Tryz.strconv_ParseInt_10_at64_ok s (by omega) v HP.out _).mono ?_
 rintro e w2 ⟨rfl, hb2⟩
 have hb3 := below_bytes hb2
 clear hb2
 go_wp2_with fail
 go_ret2
 exact ⟨rfl, hb1.trans (hb3.mono hb1.size)⟩
set_option maxHeartbeats 400000 in
theorem parse_range (s : ByteArray) (w : World) (hw : Laid w) (hs : s.size ≤ 281474976710656) (h : textB s.data.toList = true) (hp : Lib.parseIntB 64 s.data.toList = .range) :
 Calls Tryz.prog 140 #[.string s] w fun e w' => e = .returned (two 0 15) ∧ Below w.heap.size w w' := by
 have H := Lib.hid h; clear h
 have HP := Lib.hid hp; clear hp
 have HW := Lib.hid hw; clear hw
 go_enter Tryz.func140, Tryz.ntmps140
 go_wp2_with fail
 refine (isText_is H.out _ (by omega)).mono ?_
 rintro e w1 ⟨rfl, hb1⟩
 obtain ⟨tp, p, hv⟩ := (HW.out.below hb1).range
 have HV := Lib.hid hv; clear hv
 go_wp2_with fail
 refine (Tryz.strconv_ParseInt_10_at64_range_var s hs HP.out tp p _ HV.out).mono ?_
 rintro e w2 ⟨N, rfl, _, _, hb2⟩
 go_wp2_with fail
 go_ret2
 exact ⟨rfl, hb1.trans (hb2.mono hb1.size)⟩

theorem text_any (n : Int) (w : World) (hw : Laid w) (h0 : -9223372036854775808 ≤ n) (h1 : n ≤ 9223372036854775807) :
 Calls Tryz.prog 138 #[.int .i64 n] w fun e w' => e = .returned (.string ⟨(Lib.itoa n).toArray⟩) ∧ Below w.heap.size w w' := by
 have HW := Lib.hid hw; clear hw
 go_enter Tryz.func138, Tryz.ntmps138
 go_wp2_with fail
 refine (Tryz.strconv_FormatInt_10 n h0 h1 _ HW.out.pow).mono ?_
 rintro e w2 ⟨rfl, k, os, rfl⟩
 go_wp2_with fail
 go_ret
 exact ⟨rfl, Lib.below_grow _ _ (Nat.le_refl _) _ _⟩


theorem parse_no' (s : ByteArray) (w : World) (hs : s.size ≤ 281474976710656) (h : ¬ Form s.data.toList) :
 Calls Tryz.prog 140 #[.string s] w fun e w' => e = .returned (two 0 5) ∧ Below w.heap.size w w' :=
 parse_no s w (by omega) (by cases hb : textB s.data.toList with
  | false => rfl
  | true => exact absurd ((textB_iff _).1 hb) h)
theorem parse_in (s : ByteArray) (w : World) (hs : s.size ≤ 281474976710656) (h : Form s.data.toList) (h0 : -9223372036854775808 ≤ textVal s.data.toList) (h1 : textVal s.data.toList ≤ 9223372036854775807) :
 Calls Tryz.prog 140 #[.string s] w fun e w' => e = .returned (two (textVal s.data.toList) 0) ∧ Below w.heap.size w w' :=
 parse_ok s _ w hs ((textB_iff _).2 h) (by rw [parse_val _ h, if_pos ⟨h0, h1⟩])
theorem parse_out (s : ByteArray) (w : World) (hw : Laid w) (hs : s.size ≤ 281474976710656) (h : Form s.data.toList) (h0 : ¬ (-9223372036854775808 ≤ textVal s.data.toList ∧ textVal s.data.toList ≤ 9223372036854775807)) :
 Calls Tryz.prog 140 #[.string s] w fun e w' => e = .returned (two 0 15) ∧ Below w.heap.size w w' :=
 parse_range s w hw hs ((textB_iff _).2 h) (by rw [parse_val _ h, if_neg h0])
end Go.Proofs.YtndjcmclmhoigaaGreatDoor.I1
namespace Go.Proofs.YtndjcmclmhoigaaGreatDoor
open Go.RowKit

set_option maxHeartbeats 400000 in
theorem differ_any (a b : Int) (w : World) :
 Calls Tryz.prog 131 #[.int .i64 a, .int .i64 b] w fun e w' => e = .returned (.bool (differB a b)) ∧ w = w' := by
 go_enter Tryz.func131, Tryz.ntmps131
 go_wp2
 go_ret
 exact ⟨ret_bool (by unfold differB; cases decide (a < 0) <;> cases decide (b < 0) <;> rfl), rfl⟩
theorem differ_is {a b : Int} {c : Bool} (h : differB a b = c) (w : World) :
 Calls Tryz.prog 131 #[.int .i64 a, .int .i64 b] w fun e w' => e = .returned (.bool c) ∧ w = w' := h ▸ differ_any a b w
end Go.Proofs.YtndjcmclmhoigaaGreatDoor
namespace Go.Proofs.YtndjcmclmhoigaaGreatDoor
open Go.RowKit

theorem below1 (w : World) (o1 : Obj) : Below w.heap.size w (w.alloc o1) := (Below.refl _ _).alloc (Nat.le_refl _) _
theorem below2 (w : World) (o1 o2 : Obj) : Below w.heap.size w ((w.alloc o1).alloc o2) := (below1 w o1).alloc (by simp) _
theorem below3 (w : World) (o1 o2 o3 : Obj) : Below w.heap.size w (((w.alloc o1).alloc o2).alloc o3) := (below2 w o1 o2).alloc (by simp; omega) _
theorem below4 (w : World) (o1 o2 o3 o4 : Obj) : Below w.heap.size w ((((w.alloc o1).alloc o2).alloc o3).alloc o4) := (below3 w o1 o2 o3).alloc (by simp; omega) _
end Go.Proofs.YtndjcmclmhoigaaGreatDoor
namespace Go.Proofs.YtndjcmclmhoigaaGreatDoor
open Go.RowKit

/-- a pair of a number and an error, as it is returned -/
abbrev two (n e : Int) : Value := .tuple #[.int .i64 n, .int .i64 e]
set_option maxHeartbeats 400000 in
theorem add_over (p0 p1 p2 p3 : Addr) (a b s : Int) (u : FrameMode) (w : World) (h0 : w.cell? p0 = some (.int .i64 a)) (h1 : w.cell? p1 = some (.int .i64 s)) (h2 : w.cell? p2 = some (.int .i64 b)) (f : w.frozen? p1 = false) (h3 : (w.setCell p1 (.int .i64 0)).cell? p3 = some (.int .i64 0)) (f3 : (w.setCell p1 (.int .i64 0)).frozen? p3 = false) (d1 : differB a s = true) (d2 : differB b s = true) :
 CallsD Tryz.prog 132 #[.pointer (some p0), .pointer (some p1), .pointer (some p2), .pointer (some p3)] u w fun e u' w' => u' = u ∧ (e = .returned (.tuple #[]) ∧ w' = (w.setCell p1 (.int .i64 0)).setCell p3 (.int .i64 15)) := by
 have D1 := Lib.hid d1; clear d1
 have D2 := Lib.hid d2; clear d2
 go_enter_d Tryz.func132, Tryz.ntmps132
 go_wp2_with fail
 refine (differ_is D1.out _).mono ?_
 rintro e w' ⟨rfl, rfl⟩
 go_wp2_with fail
 refine (differ_is D2.out _).mono ?_
 rintro e w' ⟨rfl, rfl⟩
 go_wp2_with fail
 go_end0
 exact ⟨rfl, rfl⟩

set_option maxHeartbeats 400000 in
theorem add_fits1 (p0 p1 p2 p3 : Addr) (a b s : Int) (u : FrameMode) (w : World) (h0 : w.cell? p0 = some (.int .i64 a)) (h1 : w.cell? p1 = some (.int .i64 s)) (_h2 : w.cell? p2 = some (.int .i64 b)) (d1 : differB a s = false) :
 CallsD Tryz.prog 132 #[.pointer (some p0), .pointer (some p1), .pointer (some p2), .pointer (some p3)] u w fun e u' w' => u' = u ∧ (e = .returned (.tuple #[]) ∧ w = w') := by
 have D1 := Lib.hid d1; clear d1
 go_enter_d Tryz.func132, Tryz.ntmps132
 go_wp2_with fail
 refine (differ_is D1.out _).mono ?_
 rintro e w' ⟨rfl, rfl⟩
 go_wp2_with fail
 go_end0
 exact ⟨rfl, rfl⟩

set_option maxHeartbeats 400000 in
theorem add_fits2 (p0 p1 p2 p3 : Addr) (a b s : Int) (u : FrameMode) (w : World) (h0 : w.cell? p0 = some (.int .i64 a)) (h1 : w.cell? p1 = some (.int .i64 s)) (h2 : w.cell? p2 = some (.int .i64 b)) (d1 : differB a s = true) (d2 : differB b s = false) :
 CallsD Tryz.prog 132 #[.pointer (some p0), .pointer (some p1), .pointer (some p2), .pointer (some p3)] u w fun e u' w' => u' = u ∧ (e = .returned (.tuple #[]) ∧ w = w') := by
 have D1 := Lib.hid d1; clear d1
 have D2 := Lib.hid d2; clear d2
 go_enter_d Tryz.func132, Tryz.ntmps132
 go_wp2_with fail
 refine (differ_is D1.out _).mono ?_
 rintro e w' ⟨rfl, rfl⟩
 go_wp2_with fail
 refine (differ_is D2.out _).mono ?_
 rintro e w' ⟨rfl, rfl⟩
 go_wp2_with fail
 go_end0
 exact ⟨rfl, rfl⟩

set_option maxHeartbeats 400000 in
theorem add_out (a b : Int) (w : World) (ha : -9223372036854775808 ≤ a) (ha' : a ≤ 9223372036854775807) (hb : -9223372036854775808 ≤ b) (hb' : b ≤ 9223372036854775807) (h : ¬ (-9223372036854775808 ≤ a + b ∧ a + b ≤ 9223372036854775807)) :
 Calls Tryz.prog 85 #[.int .i64 a, .int .i64 b] w fun e w' => e = .returned (two 0 15) ∧ Below w.heap.size w w' := by
 have hmf : ∀ (fn : Fn) (first cap : Array Value) (w : World), (Instr.makeFunc fn first cap).run Tryz.prog w = .ok (.func fn first cap) w := fun _ _ _ _ => rfl
 have hd1 : differB a (wrap64 (a + b)) = true := differB_true (by unfold wrap64; omega)
 have hd2 : differB b (wrap64 (a + b)) = true := differB_true (by unfold wrap64; omega)
 have D1 := Lib.hid hd1; clear hd1
 have D2 := Lib.hid hd2; clear hd2
 clear h ha ha' hb hb'
 go_enter_defers Tryz.func85, Tryz.ntmps85
 go_wp2
 refine leaves_cons (f := 132) (args := #[.pointer (some ⟨w.heap.size, 0, none⟩), .pointer (some ⟨w.heap.size + 1 + 1, 0, none⟩), .pointer (some ⟨w.heap.size + 1, 0, none⟩), .pointer (some ⟨w.heap.size + 1 + 1 + 1, 0, none⟩)]) (by simp) (by simp [go_sem]) ?_
 refine (add_over ⟨w.heap.size, 0, none⟩ ⟨w.heap.size + 1 + 1, 0, none⟩ ⟨w.heap.size + 1, 0, none⟩ ⟨w.heap.size + 1 + 1 + 1, 0, none⟩ a b (wrap64 (a + b)) _ _ (by simp [go_sem]) (by simp [go_sem]) (by simp [go_sem]) (by simp [go_sem]) (by simp [go_sem]) (by simp [go_sem]) D1.out D2.out).mono ?_
 rintro e u' w'' ⟨rfl, rfl, rfl⟩
 simp [Leaves, settle, results, Tryz.results85, go_sem]
 exact below4 _ _ _ _ _

set_option maxHeartbeats 400000 in
theorem add_in (a b : Int) (w : World) (hr : -9223372036854775808 ≤ a + b) (hr' : a + b ≤ 9223372036854775807) (ha : -9223372036854775808 ≤ a) (ha' : a ≤ 9223372036854775807) (hb : -9223372036854775808 ≤ b) (hb' : b ≤ 9223372036854775807) :
 Calls Tryz.prog 85 #[.int .i64 a, .int .i64 b] w fun e w' => e = .returned (two (a + b) 0) ∧ Below w.heap.size w w' := by
 have hmf : ∀ (fn : Fn) (first cap : Array Value) (w : World), (Instr.makeFunc fn first cap).run Tryz.prog w = .ok (.func fn first cap) w := fun _ _ _ _ => rfl
 have hd : differB a (a + b) = false ∨ (differB a (a + b) = true ∧ differB b (a + b) = false) := by
  cases d : differB a (a + b) with
  | false => exact .inl rfl
  | true => exact .inr ⟨rfl, differB_false (by have := of_differB d; omega)⟩
 clear ha ha' hb hb'
 rcases hd with hd | ⟨hd1, hd2⟩
 ·have D1 := Lib.hid hd; clear hd
  go_enter_defers Tryz.func85, Tryz.ntmps85
  go_wp2
  refine leaves_cons (f := 132) (args := #[.pointer (some ⟨w.heap.size, 0, none⟩), .pointer (some ⟨w.heap.size + 1 + 1, 0, none⟩), .pointer (some ⟨w.heap.size + 1, 0, none⟩), .pointer (some ⟨w.heap.size + 1 + 1 + 1, 0, none⟩)]) (by simp) (by simp [go_sem]) ?_
  refine (add_fits1 ⟨w.heap.size, 0, none⟩ ⟨w.heap.size + 1 + 1, 0, none⟩ ⟨w.heap.size + 1, 0, none⟩ ⟨w.heap.size + 1 + 1 + 1, 0, none⟩ a b (a + b) _ _ (by simp [go_sem]) (by simp [go_sem]) (by simp [go_sem]) D1.out).mono ?_
  rintro e u' w'' ⟨rfl, rfl, rfl⟩
  simp [Leaves, settle, results, Tryz.results85, go_sem]
  exact below4 _ _ _ _ _
 ·have D1 := Lib.hid hd1; clear hd1
  have D2 := Lib.hid hd2; clear hd2
  go_enter_defers Tryz.func85, Tryz.ntmps85
  go_wp2
  refine leaves_cons (f := 132) (args := #[.pointer (some ⟨w.heap.size, 0, none⟩), .pointer (some ⟨w.heap.size + 1 + 1, 0, none⟩), .pointer (some ⟨w.heap.size + 1, 0, none⟩), .pointer (some ⟨w.heap.size + 1 + 1 + 1, 0, none⟩)]) (by simp) (by simp [go_sem]) ?_
  refine (add_fits2 ⟨w.heap.size, 0, none⟩ ⟨w.heap.size + 1 + 1, 0, none⟩ ⟨w.heap.size + 1, 0, none⟩ ⟨w.heap.size + 1 + 1 + 1, 0, none⟩ a b (a + b) _ _ (by simp [go_sem]) (by simp [go_sem]) (by simp [go_sem]) D1.out D2.out).mono ?_
  rintro e u' w'' ⟨rfl, rfl, rfl⟩
  simp [Leaves, settle, results, Tryz.results85, go_sem]
  exact below4 _ _ _ _ _

end Go.Proofs.YtndjcmclmhoigaaGreatDoor
