/-
 DERIVED. CONTRACTS of package ints: isText, Parse, Text.
-/
import Derived.Test.YteddfolhpoikcaaGreatDoorPR1a
import Derived.Test.YteddfolhpoikcaaGreatDoorPShelf
import Derived.Test.YteddfolhpoikcaaGreatDoorPPa
import Derived.WalkSmall
import Derived.Lib.AppendIntMem
import Derived.Lib.AtoiErrMem
namespace Go.Proofs.YteddfolhpoikcaaGreatDoor.I1
open Go.RowKit
set_option maxRecDepth 100000

/-- a pair of a number and an error, as it is returned -/
abbrev two (n e : Int) : Value := .tuple #[.int .i64 n, .int .i64 e]

theorem trim_any (s : ByteArray) (w : World) (hs : s.size ≤ 9223372036854775807) :
 Calls Tryz.prog 94 #[.string s, .string ⟨#[48, 49, 50, 51, 52, 53, 54, 55, 56, 57]⟩] w fun e w' => e = .returned (.string ⟨(Lib.trimS s.data.toList [48, 49, 50, 51, 52, 53, 54, 55, 56, 57]).toArray⟩) ∧ Below w.heap.size w w' :=
 Any.strings_Trim_laid Tryz.lays160 (by kernel_rfl) s ⟨#[48, 49, 50, 51, 52, 53, 54, 55, 56, 57]⟩ w hs (by decide) (ascii_of_all (by decide))

set_option maxHeartbeats 400000 in
theorem isText_zero (w : World) :
 Calls Tryz.prog 86 #[.string ⟨#[48]⟩] w fun e w' => e = .returned (.bool true) ∧ Below w.heap.size w w' := by
 go_enter Tryz.func86, Tryz.ntmps86
 go_wp2_with fail
 go_ret
 exact ⟨rfl, Below.refl _ _⟩

theorem trimPrefix_is {s : ByteArray} {d : List UInt8} (h : Lib.trimPrefix s.data.toList [45] = d) (w : World) :
 Calls Tryz.prog 93 #[.string s, .string ⟨#[45]⟩] w fun e w' => e = .returned (.string ⟨d.toArray⟩) ∧ w = w' := by
 subst h
 exact (Tryz.strings_TrimPrefix s ⟨#[45]⟩ w).mono fun _ _ h => ⟨h.1, h.2.symm⟩
theorem trim_is {d t : List UInt8} (h : Lib.trimS d cs10 = t) (w : World) (hs : d.length ≤ 9223372036854775807) :
 Calls Tryz.prog 94 #[.string ⟨d.toArray⟩, .string ⟨#[48, 49, 50, 51, 52, 53, 54, 55, 56, 57]⟩] w fun e w' => e = .returned (.string ⟨t.toArray⟩) ∧ Below w.heap.size w w' := by
 subst h
 exact trim_any ⟨d.toArray⟩ w (by simpa [ByteArray.size] using hs)

set_option maxHeartbeats 400000 in
theorem isText_empty (s : ByteArray) (w : World) (h0 : (s.toList == [48]) = false) (hd : Lib.trimPrefix s.data.toList [45] = []) :
 Calls Tryz.prog 86 #[.string s] w fun e w' => e = .returned (.bool false) ∧ Below w.heap.size w w' := by
 have HD := Lib.hid hd; clear hd
 go_enter Tryz.func86, Tryz.ntmps86
 go_wp2_with fail
 refine (trimPrefix_is HD.out _).mono ?_
 rintro e w' ⟨rfl, rfl⟩
 go_wp2_with fail
 go_ret
 exact ⟨rfl, Below.refl _ _⟩
set_option maxHeartbeats 400000 in
theorem isText_lead (s : ByteArray) (r : List UInt8) (w : World) (h0 : (s.toList == [48]) = false) (hd : Lib.trimPrefix s.data.toList [45] = 48 :: r) :
 Calls Tryz.prog 86 #[.string s] w fun e w' => e = .returned (.bool false) ∧ Below w.heap.size w w' := by
 have HD := Lib.hid hd; clear hd
 go_enter Tryz.func86, Tryz.ntmps86
 go_wp2_with fail
 refine (trimPrefix_is HD.out _).mono ?_
 rintro e w' ⟨rfl, rfl⟩
 go_wp2_with fail
 go_ret
 exact ⟨rfl, Below.refl _ _⟩
set_option maxHeartbeats 400000 in
theorem isText_rest (s : ByteArray) (c : UInt8) (r t : List UInt8) (w : World) (hs : (c :: r).length ≤ 9223372036854775807) (h0 : (s.toList == [48]) = false) (hd : Lib.trimPrefix s.data.toList [45] = c :: r) (hc : ((c.toNat : Int) != 48) = true) (ht : Lib.trimS (c :: r) cs10 = t) (b : Bool) (hb : t.isEmpty = b) :
 Calls Tryz.prog 86 #[.string s] w fun e w' => e = .returned (.bool b) ∧ Below w.heap.size w w' := by
 have HD := Lib.hid hd; clear hd
 have HT := Lib.hid ht; clear ht
 have HB := Lib.hid hb; clear hb
 go_enter Tryz.func86, Tryz.ntmps86
 go_wp2_with fail
 refine (trimPrefix_is HD.out _).mono ?_
 rintro e w' ⟨rfl, rfl⟩
 go_wp2_with fail
 ·exfalso
  rename_i h
  have g : (c.toNat : Int) = 48 := h
  rw [g] at hc
  exact absurd hc (by decide)
 ·refine (trim_is HT.out _ hs).mono ?_
  rintro e w' ⟨rfl, hb1⟩
  go_wp2_with fail
  go_ret
  exact ⟨ret_bool (by show ((c.toNat : Int) != 48 && t.isEmpty) = b; rw [hc, Bool.true_and]; exact HB.out), hb1⟩

theorem trimPrefix_len (l : List UInt8) : (Lib.trimPrefix l [45]).length ≤ l.length := by
 unfold Lib.trimPrefix
 split
 ·simp
 ·omega
theorem isText_any (s : ByteArray) (w : World) (hs : s.size ≤ 9223372036854775807) :
 Calls Tryz.prog 86 #[.string s] w fun e w' => e = .returned (.bool (textB s.data.toList)) ∧ Below w.heap.size w w' := by
 have hl := trimPrefix_len s.data.toList
 by_cases h0 : s.data.toList = [48]
 ·have : s = ⟨#[48]⟩ := by
   obtain ⟨⟨l⟩⟩ := s
   simp at h0; subst h0; rfl
  subst this
  exact isText_zero w
 ·have h2 : (s.data.toList == [48]) = false := by simp [h0]
  have h1 : (s.toList == [48]) = false := by rw [ByteArray.toList_eq]; exact h2
  unfold textB
  rw [h2, Bool.false_or]
  cases hd : Lib.trimPrefix s.data.toList [45] with
  | nil => exact isText_empty s w h1 hd
  | cons c r =>
   by_cases hc : (c.toNat : Int) = 48
   ·have : c = 48 := UInt8.toNat_inj.1 (by simpa using (by omega : c.toNat = 48))
    subst this
    exact isText_lead s r w h1 hd
   ·have hc1 : ((c.toNat : Int) != 48) = true := by simp; omega
    show Calls _ _ _ _ fun e w' => e = .returned (.bool ((c.toNat : Int) != 48 && _)) ∧ _
    rw [hc1, Bool.true_and]
    rw [hd] at hl
    exact isText_rest s c r _ w (by have : s.data.toList.length = s.size := Array.length_toList
                                    omega) h1 hd hc1 rfl _ rfl

/-- what the package-level variables of the library read as -/
structure Laid (w : World) : Prop where
 range : ∃ tp p, w.var? Tryz.prog "strconv.ErrRange" = some #[.iface tp p]
 pow : Lib.TabIs Tryz.prog w "internal/strconv.uint64pow10" .u64 Lib.pow10Tab
 size : 5 < w.heap.size ∧ 3 < w.heap.size
theorem gRange : Tryz.prog.globalNamed "strconv.ErrRange" = some 5 := by kernel_rfl
theorem gPow : Tryz.prog.globalNamed "internal/strconv.uint64pow10" = some 3 := by kernel_rfl
theorem Laid.below {w w' : World} (h : Laid w) (hb : Below w.heap.size w w') : Laid w' where
 range := by
  obtain ⟨tp, p, hv⟩ := h.range
  exact ⟨tp, p, var?_below hb gRange h.size.1 hv⟩
 pow := var?_below hb gPow h.size.2 h.pow
 size := ⟨Nat.lt_of_lt_of_le h.size.1 hb.size, Nat.lt_of_lt_of_le h.size.2 hb.size⟩

theorem isText_is {s : ByteArray} {b : Bool} (h : textB s.data.toList = b) (w : World) (hs : s.size ≤ 9223372036854775807) :
 Calls Tryz.prog 86 #[.string s] w fun e w' => e = .returned (.bool b) ∧ Below w.heap.size w w' := h ▸ isText_any s w hs

set_option maxHeartbeats 400000 in
theorem parse_no (s : ByteArray) (w : World) (hs : s.size ≤ 9223372036854775807) (h : textB s.data.toList = false) :
 Calls Tryz.prog 80 #[.string s] w fun e w' => e = .returned (two 0 5) ∧ Below w.heap.size w w' := by
 have H := Lib.hid h; clear h
 go_enter Tryz.func80, Tryz.ntmps80
 go_wp2_with fail
 refine (isText_is H.out _ hs).mono ?_
 rintro e w' ⟨rfl, hb1⟩
 go_wp2_with fail
 go_ret2
 exact ⟨rfl, hb1⟩
theorem below_bytes {w w' : World} (h : w' = w ∨ ∃ t, w' = Lib.bytesWorld w 5 t) : Below w.heap.size w w' := by
 rcases h with rfl | ⟨t, rfl⟩
 ·exact Below.refl _ _
 ·exact Lib.bytesWorld_below _ _ _
set_option maxHeartbeats 400000 in
theorem parse_ok (s : ByteArray) (v : Int) (w : World) (hs : s.size ≤ 281474976710656) (h : textB s.data.toList = true) (hp : Lib.parseIntB 64 s.data.toList = .ok v) :
 Calls Tryz.prog 80 #[.string s] w fun e w' => e = .returned (two v 0) ∧ Below w.heap.size w w' := by
 have H := Lib.hid h; clear h
 have HP := Lib.hid hp; clear hp
 go_enter Tryz.func80, Tryz.ntmps80
 go_wp2_with fail
 refine (isText_is H.out _ (by omega)).mono ?_
 rintro e w1 ⟨rfl, hb1⟩
 go_wp2_with fail
 refine (Tryz.strconv_ParseInt_10_at64_ok s (by omega) v HP.out _).mono ?_
 rintro e w2 ⟨rfl, hb2⟩
 have hb3 := below_bytes hb2
 clear hb2
 go_wp2_with fail
 go_ret2
 exact ⟨rfl, hb1.trans (hb3.mono hb1.size)⟩
set_option maxHeartbeats 400000 in
theorem parse_range (s : ByteArray) (w : World) (hw : Laid w) (hs : s.size ≤ 281474976710656) (h : textB s.data.toList = true) (hp : Lib.parseIntB 64 s.data.toList = .range) :
 Calls Tryz.prog 80 #[.string s] w fun e w' => e = .returned (two 0 15) ∧ Below w.heap.size w w' := by
 have H := Lib.hid h; clear h
 have HP := Lib.hid hp; clear hp
 have HW := Lib.hid hw; clear hw
 go_enter Tryz.func80, Tryz.ntmps80
 go_wp2_with fail
 refine (isText_is H.out _ (by omega)).mono ?_
 rintro e w1 ⟨rfl, hb1⟩
 obtain ⟨tp, p, hv⟩ := (HW.out.below hb1).range
 have HV := Lib.hid hv; clear hv
 go_wp2_with fail
 refine (Tryz.strconv_ParseInt_10_at64_range_var s hs HP.out tp p _ HV.out).mono ?_
 rintro e w2 ⟨N, rfl, _, _, hb2⟩
 go_wp2_with fail
 go_ret2
 exact ⟨rfl, hb1.trans (hb2.mono hb1.size)⟩

theorem text_any (n : Int) (w : World) (hw : Laid w) (h0 : -9223372036854775808 ≤ n) (h1 : n ≤ 9223372036854775807) :
 Calls Tryz.prog 78 #[.int .i64 n] w fun e w' => e = .returned (.string ⟨(Lib.itoa n).toArray⟩) ∧ Below w.heap.size w w' := by
 have HW := Lib.hid hw; clear hw
 go_enter Tryz.func78, Tryz.ntmps78
 go_wp2_with fail
 refine (Tryz.strconv_FormatInt_10 n h0 h1 _ HW.out.pow).mono ?_
 rintro e w2 ⟨rfl, k, os, rfl⟩
 go_wp2_with fail
 go_ret
 exact ⟨rfl, Lib.below_grow _ _ (Nat.le_refl _) _ _⟩


theorem parse_no' (s : ByteArray) (w : World) (hs : s.size ≤ 281474976710656) (h : ¬ Form s.data.toList) :
 Calls Tryz.prog 80 #[.string s] w fun e w' => e = .returned (two 0 5) ∧ Below w.heap.size w w' :=
 parse_no s w (by omega) (by cases hb : textB s.data.toList with
  | false => rfl
  | true => exact absurd ((textB_iff _).1 hb) h)
theorem parse_in (s : ByteArray) (w : World) (hs : s.size ≤ 281474976710656) (h : Form s.data.toList) (h0 : -9223372036854775808 ≤ textVal s.data.toList) (h1 : textVal s.data.toList ≤ 9223372036854775807) :
 Calls Tryz.prog 80 #[.string s] w fun e w' => e = .returned (two (textVal s.data.toList) 0) ∧ Below w.heap.size w w' :=
 parse_ok s _ w hs ((textB_iff _).2 h) (by rw [parse_val _ h, if_pos ⟨h0, h1⟩])
theorem parse_out (s : ByteArray) (w : World) (hw : Laid w) (hs : s.size ≤ 281474976710656) (h : Form s.data.toList) (h0 : ¬ (-9223372036854775808 ≤ textVal s.data.toList ∧ textVal s.data.toList ≤ 9223372036854775807)) :
 Calls Tryz.prog 80 #[.string s] w fun e w' => e = .returned (two 0 15) ∧ Below w.heap.size w w' :=
 parse_range s w hw hs ((textB_iff _).2 h) (by rw [parse_val _ h, if_neg h0])
end Go.Proofs.YteddfolhpoikcaaGreatDoor.I1
