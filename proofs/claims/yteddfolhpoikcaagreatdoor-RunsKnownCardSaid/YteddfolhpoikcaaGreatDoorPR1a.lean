/-
 DERIVED. What the whole numbers' reference in namespace R1 shares. Written by mkr1.py.
 DERIVED. CONTRACTS of the reference's whole numbers: digit, less, trim, Neg.
 DERIVED. CONTRACT of the reference's Of: the whole number of an int64.
 DERIVED. CONTRACT of the reference's Add.
 DERIVED. CONTRACT of the reference's Text.
 DERIVED. Texts of numbers have the form, and their values. In namespace R1. Written off XLawText.
 DERIVED. TEXTS OF ENDS as lists of bytes, and back. No program.
 DERIVED. TEXTS OF RUNS as lists of bytes, and back. No program.
-/
import Derived.Test.YteddfolhpoikcaaGreatDoorPPa
import Derived.WalkKit
import Derived.WalkSpells
import Derived.WalkLawsBesides
import Derived.Lib.Hide
import Derived.BigQuiet
import Derived.Deep.QuietTactic
import Derived.WalkSmall
import Derived.Deep.LoopGhost
import Derived.Lib.ItoaNum
import Derived.Laws.BytesArg
namespace Go.Proofs.YteddfolhpoikcaaGreatDoor.R1
open Go.RowKit

theorem ret_int {k : IntKind} {a b : Int} (h : a = b) : Ending.returned (.int k a) = .returned (.int k b) := by rw [h]
theorem ret_bool {a b : Bool} (h : a = b) : Ending.returned (.bool a) = .returned (.bool b) := by rw [h]
theorem below1 (w : World) (o1 : Obj) : Below w.heap.size w (w.alloc o1) := (Below.refl _ _).alloc (Nat.le_refl _) _
theorem below2 (w : World) (o1 o2 : Obj) : Below w.heap.size w ((w.alloc o1).alloc o2) := (below1 w o1).alloc (by simp) _
theorem below3 (w : World) (o1 o2 o3 : Obj) : Below w.heap.size w (((w.alloc o1).alloc o2).alloc o3) := (below2 w o1 o2).alloc (by simp; omega) _
theorem below4 (w : World) (o1 o2 o3 o4 : Obj) : Below w.heap.size w ((((w.alloc o1).alloc o2).alloc o3).alloc o4) := (below3 w o1 o2 o3).alloc (by simp; omega) _
end Go.Proofs.YteddfolhpoikcaaGreatDoor.R1
namespace Go.Proofs.YteddfolhpoikcaaGreatDoor.R1
open Go.RowKit

/-- a slice of bytes reads as these digits -/
def Digs (w : World) (v : Value) (ds : List Nat) : Prop :=
 (v = .slice none 0 0 ∧ ds = []) ∨ ∃ b cap, v = .slice (some ⟨b, 0, none⟩) ds.length cap ∧ b < w.heap.size ∧ ds.length ≤ 1000000 ∧ ds.length ≤ cap ∧ cap ≤ maxLen ∧ ∀ i, i < ds.length → w.cell? ⟨b, i, none⟩ = some (.int .u8 (at0 ds i))
theorem Digs.below {w w' : World} {v : Value} {ds : List Nat} (h : Digs w v ds) (hb : Below w.heap.size w w') : Digs w' v ds := by
 rcases h with h | ⟨b, cap, h1, h2, h3, h4, h5, h6⟩
 ·exact .inl h
 ·exact .inr ⟨b, cap, h1, Nat.lt_of_lt_of_le h2 hb.size, h3, h4, h5, fun i hi => by rw [hb.cell (p := ⟨b, i, none⟩) h2]; exact h6 i hi⟩
theorem Digs.len {w : World} {v : Value} {ds : List Nat} (h : Digs w v ds) : ds.length ≤ 1000000 := by
 rcases h with ⟨_, rfl⟩ | ⟨_, _, _, _, h, _⟩
 ·simp
 ·exact h

set_option maxHeartbeats 400000 in
theorem digit_any (v : Value) (ds : List Nat) (i : Nat) (w : World) (h : Digs w v ds) (_hi : i ≤ 1000000) (h9 : ∀ d ∈ ds, d ≤ 9) :
 Calls Tryz.prog 74 #[v, .int .i64 i] w fun e w' => e = .returned (.int .i64 (at0 ds i)) ∧ w = w' := by
 rcases h with ⟨rfl, rfl⟩ | ⟨b, cap, rfl, h2, h3, h4, h5, h6⟩
 ·go_enter Tryz.func74, Tryz.ntmps74
  go_wp2_with fail
  go_ret
  exact ⟨rfl, rfl⟩
 ·have h0 := at0_le ds h9 i
  by_cases hlt : i < ds.length
  ·have hc := h6 i hlt
   clear h6
   go_enter Tryz.func74, Tryz.ntmps74
   go_wp2_with fail
   go_ret
   exact ⟨rfl, rfl⟩
  ·have hz : at0 ds i = 0 := by unfold at0; rw [List.getD_eq_getElem?_getD, List.getElem?_eq_none (by omega)]; rfl
   have HZ := Lib.hid hz; clear hz h6
   go_enter Tryz.func74, Tryz.ntmps74
   go_wp2_with fail
   go_ret
   exact ⟨ret_int (by rw [HZ.out]; rfl), rfl⟩

def lessB (a b : List Nat) : Bool := decide (vl a < vl b)
theorem Digs.slice {w : World} {v : Value} {ds : List Nat} (h : Digs w v ds) (hn : 0 < ds.length) : ∃ b cap, v = .slice (some ⟨b, 0, none⟩) ds.length cap ∧ b < w.heap.size ∧ ds.length ≤ 1000000 ∧ ds.length ≤ cap ∧ cap ≤ maxLen ∧ ∀ i, i < ds.length → w.cell? ⟨b, i, none⟩ = some (.int .u8 (at0 ds i)) := by
 rcases h with ⟨_, rfl⟩ | h
 ·simp at hn
 ·exact h
theorem Digs.head {w : World} {v : Value} {ds : List Nat} (h : Digs w v ds) : ∃ a cap, v = .slice a ds.length cap := by
 rcases h with ⟨rfl, rfl⟩ | ⟨b, cap, h, _⟩
 ·exact ⟨none, 0, rfl⟩
 ·exact ⟨_, cap, h⟩
set_option maxHeartbeats 400000 in
theorem less_short (va vb : Value) (a b : List Nat) (w : World) (ha : Digs w va a) (hb : Digs w vb b) (h : ¬ a.length = b.length) :
 Calls Tryz.prog 76 #[va, vb] w fun e w' => e = .returned (.bool (decide (a.length < b.length))) ∧ Below w.heap.size w w' := by
 have l1 := ha.len
 have l2 := hb.len
 obtain ⟨x, cx, rfl⟩ := ha.head
 obtain ⟨y, cy, rfl⟩ := hb.head
 clear ha hb
 have h1 : ((a.length : Int) != (b.length : Int)) = true := by simp; omega
 clear h
 go_enter Tryz.func76, Tryz.ntmps76
 go_wp2_with fail
 go_ret
 exact ⟨ret_bool (decide_eq_decide.2 (by omega)), Below.refl _ _⟩
set_option maxHeartbeats 400000 in
theorem less_nil (va vb : Value) (w : World) (ha : Digs w va []) (hb : Digs w vb []) :
 Calls Tryz.prog 76 #[va, vb] w fun e w' => e = .returned (.bool false) ∧ Below w.heap.size w w' := by
 obtain ⟨x, cx, rfl⟩ := ha.head
 obtain ⟨y, cy, rfl⟩ := hb.head
 clear ha hb
 go_enter Tryz.func76, Tryz.ntmps76
 go_wp2_with fail
 go_loopw [5] (fun i wr => i = .int .i64 (-1) ∧ wr = w) (fun i _ => 0)
 case atStart => exact ⟨rfl, rfl⟩
 case round =>
  obtain ⟨rfl, rfl⟩ := hrel
  go_wp2_with fail
  go_ret
  exact ⟨rfl, Below.refl _ _⟩
set_option maxHeartbeats 400000 in
theorem less_same (va vb : Value) (a b : List Nat) (w : World) (ha : Digs w va a) (hb : Digs w vb b) (ca : Can a) (cb : Can b) (h : a.length = b.length) (hn : 0 < a.length) :
 Calls Tryz.prog 76 #[va, vb] w fun e w' => e = .returned (.bool (lessB a b)) ∧ Below w.heap.size w w' := by
 obtain ⟨x, cx, rfl, hx, l1, lx, mx, hcx⟩ := ha.slice hn
 obtain ⟨y, cy, rfl, hy, l2, ly, my, hcy⟩ := hb.slice (by omega)
 have HX := Lib.hid hcx; clear hcx
 have HY := Lib.hid hcy; clear hcy
 rw [← h] at ly ⊢
 have H := Lib.hid h; clear h
 have CA := Lib.hid ca; clear ca
 have CB := Lib.hid cb; clear cb
 clear ha hb
 go_enter Tryz.func76, Tryz.ntmps76
 go_wp2_with fail
 go_loopw [5] (fun i wr => ∃ z : Int, -1 ≤ z ∧ z < a.length ∧ i = .int .i64 z ∧ Hid (vl (a.drop (z + 1).toNat) = vl (b.drop (z + 1).toNat)) ∧ Below w.heap.size w wr) (fun i _ => (intOf i + 1).toNat)
 case atStart => exact ⟨(a.length : Int) - 1, by omega, by omega, rfl, Lib.hid (by have := H.out; rw [List.drop_eq_nil_of_le (by omega), List.drop_eq_nil_of_le (by omega)]), Below.refl _ _⟩
 case round =>
  obtain ⟨z, hz, hz2, rfl, hd, hbl⟩ := hrel
  by_cases hp : 0 ≤ z
  ·obtain ⟨m, rfl⟩ := Int.eq_ofNat_of_zero_le hp
   have c1 : wr.cell? ⟨x, m, none⟩ = some (.int .u8 (at0 a m)) := by rw [hbl.cell (p := ⟨x, m, none⟩) hx]; exact HX.out m (by omega)
   have c2 : wr.cell? ⟨y, m, none⟩ = some (.int .u8 (at0 b m)) := by rw [hbl.cell (p := ⟨y, m, none⟩) hy]; exact HY.out m (by have := H.out; omega)
   by_cases he : at0 a m = at0 b m
   ·have he1 : ((at0 a m : Int) != (at0 b m : Int)) = false := by simp [he]
    have HE := Lib.hid he; clear he
    go_wp2_with fail
    go_quiet (fail)
    go_wp2_with fail
    go_roundw
    case rel => exact ⟨(m : Int) - 1, by omega, by omega, rfl, Lib.hid (by
     have e := hd.out
     rw [show ((m : Int) + 1).toNat = m + 1 from by omega] at e
     rw [show ((m : Int) - 1 + 1).toNat = m from by omega, vl_drop a m, vl_drop b m, e, HE.out]), below_drewN hbl _⟩
    case measure => simp [intOf]
   ·have he1 : ((at0 a m : Int) != (at0 b m : Int)) = true := by simp; omega
    have hf : decide (at0 a m < at0 b m) = lessB a b := by
     have e := hd.out
     rw [show ((m : Int) + 1).toNat = m + 1 from by omega] at e
     have hh := H.out
     unfold lessB
     by_cases g : at0 a m < at0 b m
     ·rw [decide_eq_true g, decide_eq_true (less_at CA.out hh m (by omega) e g)]
     ·have := less_at CB.out hh.symm m (by omega) e.symm (by omega)
      rw [decide_eq_false g, decide_eq_false (by omega)]
    have HF := Lib.hid hf; clear hf he
    go_wp2_with fail
    go_quiet (fail)
    go_wp2_with fail
    go_quiet (fail)
    go_wp2_with fail
    go_ret
    exact ⟨ret_bool HF.out, below_drewN (below_drewN hbl _) _⟩
  ·have hz3 : z = -1 := by omega
   subst hz3
   have hf : lessB a b = false := by
    have e := hd.out
    have e2 : vl a = vl b := e
    unfold lessB
    rw [decide_eq_false (by omega)]
   have HF := Lib.hid hf; clear hf
   go_wp2_with fail
   go_ret
   exact ⟨ret_bool HF.out.symm, hbl⟩
theorem less_any (va vb : Value) (a b : List Nat) (w : World) (ha : Digs w va a) (hb : Digs w vb b) (ca : Can a) (cb : Can b) :
 Calls Tryz.prog 76 #[va, vb] w fun e w' => e = .returned (.bool (lessB a b)) ∧ Below w.heap.size w w' := by
 by_cases h : a.length = b.length
 ·by_cases hn : 0 < a.length
  ·exact less_same va vb a b w ha hb ca cb h hn
  ·obtain rfl : a = [] := List.length_eq_zero_iff.1 (by omega)
   obtain rfl : b = [] := List.length_eq_zero_iff.1 (by simpa using h.symm)
   exact less_nil va vb w ha hb
 ·have := less_short va vb a b w ha hb h
  have e : lessB a b = decide (a.length < b.length) := by
   unfold lessB
   by_cases g : a.length < b.length
   ·rw [decide_eq_true g, decide_eq_true (less_len ca cb g)]
   ·have := less_len cb ca (by omega)
    rw [decide_eq_false g, decide_eq_false (by omega)]
  rw [e]; exact this

/-- a whole number is handed back, in a slice of a new block, or of one of the blocks S -/
def SomeNum (x : Int) (w : World) (S : List Nat) (e : Ending) (w' : World) : Prop :=
 (∃ a cap, e = .returned (.agg #[.bool (decide (x < 0)), .slice a (dg x.natAbs).length cap]) ∧ Digs w' (.slice a (dg x.natAbs).length cap) (dg x.natAbs) ∧ ∀ p, a = some p → w.heap.size ≤ p.block ∨ p.block ∈ S) ∧ Below w.heap.size w w'
def nv (neg : Bool) (l : List Nat) : Int := if neg then -(vl l : Int) else vl l

set_option maxHeartbeats 400000 in
theorem trim_nil (neg : Bool) (w : World) :
 Calls Tryz.prog 75 #[.agg #[.bool neg, .slice none 0 0]] w fun e w' => SomeNum 0 w [] e w' := by
 go_enter Tryz.func75, Tryz.ntmps75
 go_wp2_with fail
 go_loopw [3] (fun _ wr => True ∧ wr = (w.alloc (.cells #[.bool neg, .slice none 0 0] 84)).alloc (.cells #[.bool false, .slice none 0 0] 84)) (fun _ _ => 0)
 case atStart => exact ⟨trivial, rfl⟩
 case round =>
  obtain ⟨_, rfl⟩ := hrel
  go_wp2_with fail
  exact bodyPost_ret (v := .agg #[.bool false, .slice none 0 0]) (by simp [results, Tryz.results75, go_sem]) rfl ⟨⟨none, 0, by simp [dg_zero], .inl ⟨by simp [dg_zero], dg_zero⟩, fun _ h => by cases h⟩, below2 _ _ _⟩

abbrev NT : TypeId := 84
theorem at0_snoc {l : List Nat} {m : Nat} (h : m < l.length) : l.take (m + 1) = l.take m ++ [at0 l m] := by
 rw [List.take_succ_eq_append_getElem h]
 unfold at0
 rw [List.getD_eq_getElem?_getD, List.getElem?_eq_getElem h]; rfl
theorem at0_take (l : List Nat) (k i : Nat) (h : i < k) : at0 (l.take k) i = at0 l i := by
 unfold at0
 rw [List.getD_eq_getElem?_getD, List.getD_eq_getElem?_getD, List.getElem?_take_of_lt h]
theorem nv_zero (neg : Bool) (l : List Nat) (h : vl l = 0) : nv neg l = 0 := by unfold nv; rw [h]; cases neg <;> rfl
theorem nv_neg (neg : Bool) (l : List Nat) (h : 0 < vl l) : decide (nv neg l < 0) = neg ∧ (nv neg l).natAbs = vl l := by
 unfold nv
 cases neg
 ·exact ⟨decide_eq_false (by simp), by simp⟩
 ·exact ⟨decide_eq_true (by simp; omega), by simp⟩
set_option maxHeartbeats 400000 in
theorem trim_some (neg : Bool) (b cap : Nat) (ds : List Nat) (w : World) (hb : b < w.heap.size) (hl : ds.length ≤ 1000000) (hcap : ds.length ≤ cap) (hmax : cap ≤ maxLen) (h9 : ∀ d ∈ ds, d ≤ 9) (hc : ∀ i, i < ds.length → w.cell? ⟨b, i, none⟩ = some (.int .u8 (at0 ds i))) :
 Calls Tryz.prog 75 #[.agg #[.bool neg, .slice (some ⟨b, 0, none⟩) ds.length cap]] w (SomeNum (nv neg ds) w [b]) := by
 unfold maxLen at hmax
 have HC := Lib.hid hc; clear hc
 have H9 := Lib.hid h9; clear h9
 go_enter Tryz.func75, Tryz.ntmps75
 go_wp2_with fail
 go_loopw [3] (fun _ wr => ∃ k, k ≤ ds.length ∧ Hid (vl (ds.take k) = vl ds) ∧ wr = (w.alloc (.cells #[.bool neg, .slice (some ⟨b, 0, none⟩) k cap] NT)).alloc (.cells #[.bool false, .slice none 0 0] NT)) (fun _ wr => match wr.cell? ⟨w.heap.size, 1, none⟩ with | some (.slice _ k _) => k | _ => 0)
 case atStart => exact ⟨ds.length, Nat.le_refl _, Lib.hid (by rw [List.take_length]), rfl⟩
 case round =>
  obtain ⟨k, hk, hv, rfl⟩ := hrel
  cases k with
  | zero =>
   have hz : vl ds = 0 := hv.out.symm
   go_wp2_with fail
   exact bodyPost_ret (v := .agg #[.bool false, .slice (some ⟨b, 0, none⟩) 0 cap]) (by simp [results, Tryz.results75, go_sem]) rfl ⟨(by
    rw [nv_zero neg ds hz]
    exact ⟨some ⟨b, 0, none⟩, cap, by simp [dg_zero], .inr ⟨b, cap, by simp [dg_zero], by simp; omega, by simp [dg_zero], by simp [dg_zero], hmax, fun i hi => by simp [dg_zero] at hi⟩, fun p hp => by cases hp; exact .inr (by simp)⟩), below2 _ _ _⟩
  | succ m =>
   have hc := HC.out m (by omega)
   have c1 : ((w.alloc (.cells #[.bool neg, .slice (some ⟨b, 0, none⟩) (m + 1) cap] NT)).alloc (.cells #[.bool false, .slice none 0 0] NT)).cell? ⟨b, m, none⟩ = some (.int .u8 (at0 ds m)) := by
    rw [(below2 w _ _).cell (p := ⟨b, m, none⟩) hb]; exact hc
   by_cases hd : at0 ds m = 0
   ·rw [hd] at c1 hc
    have HD := Lib.hid hd; clear hd
    go_wp2_with fail
    go_roundw
    case rel => exact ⟨m, by omega, Lib.hid (by rw [← hv.out, at0_snoc (by omega), HD.out, vl_zero_snoc]), rfl⟩
    case measure => simp [go_sem]
   ·have hd1 : ((at0 ds m : Int) == 0) = false := by simp; omega
    have hcan : dg (vl ds) = ds.take (m + 1) := by
     rw [← hv.out]
     refine dg_vl _ (fun d hd => H9.out d (List.mem_of_mem_take hd)) fun a e => ?_
     rw [at0_snoc (by omega)] at e
     have := List.append_inj_right' e (by simp)
     simp at this
     exact hd this
    have hpos : 0 < vl ds := by
     rcases Nat.eq_zero_or_pos (vl ds) with z | z
     ·rw [z, dg_zero] at hcan
      have := congrArg List.length hcan
      simp at this; omega
     ·exact z
    have HCAN := Lib.hid hcan; clear hcan
    clear hd
    go_wp2_with fail
    exact bodyPost_ret (v := .agg #[.bool neg, .slice (some ⟨b, 0, none⟩) (m + 1) cap]) (by simp [results, Tryz.results75, go_sem]) rfl ⟨(by
     have hn := nv_neg neg ds hpos
     have hlen : (ds.take (m + 1)).length = m + 1 := by simp; omega
     refine ⟨some ⟨b, 0, none⟩, cap, by rw [hn.1, hn.2, HCAN.out, hlen], ?_, fun p hp => by cases hp; exact .inr (by simp)⟩
     rw [hn.2, HCAN.out]
     refine .inr ⟨b, cap, rfl, by simp; omega, by omega, by omega, by unfold maxLen; omega, fun i hi => ?_⟩
     rw [hlen] at hi
     rw [(below2 w _ _).cell (p := ⟨b, i, none⟩) hb, HC.out i (by omega), at0_take _ _ _ hi]), below2 _ _ _⟩
/-- the blocks of a slice -/
def sb : Value → List Nat
 | .slice (some p) _ _ => [p.block]
 | _ => []
/-- trim: whatever digits, the number that they say -/
theorem ref_trim (neg : Bool) (v : Value) (ds : List Nat) (w : World) (h : Digs w v ds) (h9 : ∀ d ∈ ds, d ≤ 9) :
 Calls Tryz.prog 75 #[.agg #[.bool neg, v]] w (SomeNum (nv neg ds) w (sb v)) := by
 rcases h with ⟨rfl, rfl⟩ | ⟨b, cap, rfl, h2, h3, h4, h5, h6⟩
 ·rw [nv_zero neg [] rfl]; exact trim_nil neg w
 ·exact trim_some neg b cap ds w h2 h3 h4 h5 h9 h6
theorem sb_lt {w : World} {v : Value} {ds : List Nat} (h : Digs w v ds) : ∀ b ∈ sb v, b < w.heap.size := by
 rcases h with ⟨rfl, rfl⟩ | ⟨b, cap, rfl, h2, _⟩
 ·intro b hb; simp [sb] at hb
 ·intro c hc; simp [sb] at hc; omega
theorem Digs.setCell {w : World} {a : Option Addr} {n cap : Nat} {ds : List Nat} {k o : Nat} {u : Value} (h : Digs w (.slice a n cap) ds) (hk : ∀ p, a = some p → ¬ p.block = k) : Digs (w.setCell ⟨k, o, none⟩ u) (.slice a n cap) ds := by
 rcases h with h | ⟨b, c, h1, h2, h3, h4, h5, h6⟩
 ·exact .inl h
 ·cases h1
  refine .inr ⟨b, _, rfl, by simpa using h2, h3, h4, h5, fun i hi => ?_⟩
  have hne := hk _ rfl
  rw [World.cell?_setCell_other _ _ _ _ (by intro e; cases e; exact hne rfl)]
  exact h6 i hi
/-- behind the store of a struct into the block of the result -/
theorem SomeNum.stored {x : Int} {w w1 : World} {S : List Nat} {a : Option Addr} {cap k : Nat} {e : Ending} {u0 u1 : Value} (he : e = .returned (.agg #[.bool (decide (x < 0)), .slice a (dg x.natAbs).length cap]))
 (hb : Below w.heap.size w w1) (hk : w.heap.size ≤ k) (hd : Digs w1 (.slice a (dg x.natAbs).length cap) (dg x.natAbs)) (hf : ∀ p, a = some p → k < p.block ∨ p.block ∈ S) (hS : ∀ b ∈ S, b < w.heap.size) :
 SomeNum x w S e ((w1.setCell ⟨k, 0, none⟩ u0).setCell ⟨k, 1, none⟩ u1) := by
 have hne : ∀ p, a = some p → ¬ p.block = k := fun p hp e => by
  rcases hf p hp with h | h
  ·omega
  ·have := hS _ h; omega
 exact ⟨⟨a, cap, he, (hd.setCell hne).setCell hne, fun p hp => (hf p hp).imp (fun h => by omega) id⟩, (hb.setCell (p := ⟨k, 0, none⟩) hk _).setCell (p := ⟨k, 1, none⟩) hk _⟩
set_option maxHeartbeats 400000 in
theorem neg_any (x : Int) (v : Value) (w : World) (hd : Digs w v (dg x.natAbs)) :
 Calls Tryz.prog 59 #[.agg #[.bool (decide (x < 0)), v]] w (SomeNum (-x) w (sb v)) := by
 obtain ⟨ad, cap, rfl⟩ := hd.head
 have hn : nv (!decide (x < 0)) (dg x.natAbs) = -x := by
  unfold nv
  rw [vl_dg]
  by_cases h : x < 0
  ·rw [decide_eq_true h]; simp; omega
  ·rw [decide_eq_false h]; simp; omega
 have HN := Lib.hid hn; clear hn
 have HD := Lib.hid hd; clear hd
 go_enter Tryz.func59, Tryz.ntmps59
 go_wp2_with fail
 refine (ref_trim (!decide (x < 0)) _ (dg x.natAbs) _ (HD.out.below (below2 _ _ _)) (dg_le _)).mono ?_
 rw [HN.out]
 rintro e w1 ⟨⟨a1, cap1, rfl, hd1, hf⟩, hb⟩
 have D1 := Lib.hid hd1; clear hd1
 have c0 : w1.cell? ⟨w.heap.size + 1, 0, none⟩ = some (.bool false) := by rw [hb.cell (p := ⟨w.heap.size + 1, 0, none⟩) (by simp)]; simp [go_sem]
 have c1 : w1.cell? ⟨w.heap.size + 1, 1, none⟩ = some (.slice none 0 0) := by rw [hb.cell (p := ⟨w.heap.size + 1, 1, none⟩) (by simp)]; simp [go_sem]
 have f0 : w1.frozen? ⟨w.heap.size + 1, 0, none⟩ = false := by rw [hb.frozen (p := ⟨w.heap.size + 1, 0, none⟩) (by simp)]; simp [go_sem]
 have f1 : w1.frozen? ⟨w.heap.size + 1, 1, none⟩ = false := by rw [hb.frozen (p := ⟨w.heap.size + 1, 1, none⟩) (by simp)]; simp [go_sem]
 have hb0 := (below2 w _ _).trans (hb.mono (by simp; omega))
 clear hb
 go_wp2_with fail
 refine bodyPost_ret (v := .agg #[.bool (decide (-x < 0)), .slice a1 (dg (-x).natAbs).length cap1]) (by simp [results, Tryz.results59, go_sem, c0, c1]) rfl ?_
 exact SomeNum.stored rfl hb0 (by omega) D1.out (fun p hp => (hf p hp).imp (fun h => by simp at h; omega) id) (sb_lt HD.out)
end Go.Proofs.YteddfolhpoikcaaGreatDoor.R1
namespace Go.Proofs.YteddfolhpoikcaaGreatDoor.R1
open Go.RowKit

theorem info5 : (Tryz.prog.info? 5).map (fun i => (i.zero, i.size, i.bytes)) = some (some (.int .u8 0), 1, 1) := by kernel_rfl
def vs (l : List Nat) : List Value := l.map fun (d : Nat) => Value.int .u8 (d : Int)
theorem vs_snoc (l : List Nat) (d : Nat) : vs (l ++ [d]) = vs l ++ [.int .u8 d] := by simp [vs]
theorem vs_at (l : List Nat) (i : Nat) (h : i < l.length) : (vs l)[i]? = some (.int .u8 (at0 l i)) := by
 unfold vs at0
 rw [List.getElem?_map, List.getD_eq_getElem?_getD, List.getElem?_eq_getElem h]; rfl
theorem own_digs {w : World} {base : Nat} {v : Value} {ds : List Nat} (h : w.ownsRow base 5 1 v ds.length (vs ds)) (hl : ds.length ≤ 1000000) :
 ∃ a cap, v = .slice a ds.length cap ∧ Digs w (.slice a ds.length cap) ds ∧ ∀ p, a = some p → base ≤ p.block := by
 have h2 := h
 obtain ⟨_, ⟨rfl, hn⟩ | ⟨g, cap, cur, rfl, hb, hh, hc, hm, _, _⟩⟩ := h
 ·have : ds = [] := List.length_eq_zero_iff.1 hn
  subst this
  exact ⟨none, 0, rfl, .inl ⟨rfl, rfl⟩, fun _ e => by cases e⟩
 ·refine ⟨_, cap, rfl, .inr ⟨g, cap, rfl, (Array.getElem?_eq_some_iff.1 hh).1, hl, hc, hm, fun i hi => ?_⟩, fun p e => by cases e; exact hb⟩
  rw [h2.cellAt i (by omega)]
  exact vs_at ds i hi
theorem dg_step {y n : Int} {ds : List Nat} (h : ds ++ dg y.natAbs = dg n.natAbs) (hy : ¬ y = 0) : (ds ++ [(y.tmod 10).natAbs]) ++ dg (y.tdiv 10).natAbs = dg n.natAbs := by
 have e1 : (y.tmod 10).natAbs = y.natAbs % 10 := Int.natAbs_tmod y 10
 have e2 : (y.tdiv 10).natAbs = y.natAbs / 10 := Int.natAbs_tdiv y 10
 rw [e1, e2, List.append_assoc, ← h]
 have : ¬ y.natAbs = 0 := by omega
 rw [dg_pos this]; rfl
theorem len_of {y n : Int} {ds : List Nat} (h : ds ++ dg y.natAbs = dg n.natAbs) (h0 : -9223372036854775808 ≤ n) (h1 : n ≤ 9223372036854775807) : ds.length ≤ 19 := by
 have e := congrArg List.length h
 rw [List.length_append] at e
 have := dg_length_le n.natAbs 19 (by omega)
 omega
theorem one_new (w : World) (x : Value) (t : TypeId) : ∀ j u, [x][j]? = some u → (w.alloc (.cells #[x] t)).cell? ((⟨w.heap.size, 0, none⟩ : Addr).add j) = some u := by
 intro j u hj
 match j, hj with
 | 0, hj => simp at hj; subst hj; simp [Addr.add]
 | j + 1, hj => simp at hj
/-- what the loop of Of leaves after some rounds: the number that is left, the digits so far, the number's own block k -/
structure OfRel (n : Int) (k : Nat) (neg : Bool) (w : World) (y : Int) (ds : List Nat) (wr : World) : Prop where
 bound : -9223372036854775808 ≤ y ∧ y ≤ 9223372036854775807
 digits : ds ++ dg y.natAbs = dg n.natAbs
 below : Below (w.heap.size + 1) (w.alloc (.cells #[.bool false, .slice none 0 0] NT)) wr
 size : k < wr.heap.size
 c0 : wr.cell? ⟨k, 0, none⟩ = some (.bool neg)
 f0 : wr.frozen? ⟨k, 0, none⟩ = false
 f1 : wr.frozen? ⟨k, 1, none⟩ = false

theorem grown_set (W : World) (p : Addr) (v : Value) : W.grownBy (W.setCell p v) (some p.block) :=
 ⟨rfl, rfl, rfl, (Below.setCell (Below.refl 0 W) (p := p) (Nat.zero_le _) v).size, fun k _ hk => Below.heap_setCell _ _ _ k (fun e => hk (by rw [e]))⟩
theorem own_shape {w : World} {base : Nat} {e : TypeId} {v : Value} {n : Nat} {xs : List Value} (h : w.ownsRow base e 1 v n xs) : ∃ a cap, v = .slice a n cap := by
 obtain ⟨_, ⟨rfl, rfl⟩ | ⟨g, cap, cur, rfl, _⟩⟩ := h
 ·exact ⟨none, 0, rfl⟩
 ·exact ⟨_, cap, rfl⟩
/-- one round of the loop: the relation of what it leaves -/
theorem round_of {n : Int} {w wr wa w' : World} {y : Int} {ds : List Nat} {v v' : Value} (hbl : Below (w.heap.size + 1) (w.alloc (.cells #[.bool false, .slice none 0 0] NT)) wr) (hsz : w.heap.size + 1 < wr.heap.size)
 (hc0 : wr.cell? ⟨w.heap.size + 1, 0, none⟩ = some (.bool (decide (n < 0)))) (hf0 : wr.frozen? ⟨w.heap.size + 1, 0, none⟩ = false) (hf1 : wr.frozen? ⟨w.heap.size + 1, 1, none⟩ = false) (hc1 : wr.cell? ⟨w.heap.size + 1, 1, none⟩ = some v)
 (hown : wr.ownsRow (w.heap.size + 2) 5 1 v ds.length (vs ds)) (ha : Below wr.heap.size wr wa) (hg : wa.grownBy w' v.ownBlock) (d : Nat) (hown' : w'.ownsRow (w.heap.size + 2) 5 1 v' (ds.length + 1) (vs ds ++ [.int .u8 d]))
 (hst : ds ++ [d] ++ dg y.natAbs = dg n.natAbs) (hy : -9223372036854775808 ≤ y ∧ y ≤ 9223372036854775807) :
 OfRel n (w.heap.size + 1) (decide (n < 0)) w y (ds ++ [d]) (w'.setCell ⟨w.heap.size + 1, 1, none⟩ v') ∧ (w'.setCell ⟨w.heap.size + 1, 1, none⟩ v').cell? ⟨w.heap.size + 1, 1, none⟩ = some v' ∧ (w'.setCell ⟨w.heap.size + 1, 1, none⟩ v').ownsRow (w.heap.size + 2) 5 1 v' (ds ++ [d]).length (vs (ds ++ [d])) := by
 have h2 : Below (w.heap.size + 2) wr w' := (ha.mono (by omega)).grown hg (by have := ha.size; omega) (fun k hk => (hown.lt k hk).1)
 have k0 : w'.cell? ⟨w.heap.size + 1, 0, none⟩ = some (.bool (decide (n < 0))) := by rw [h2.cell (p := ⟨w.heap.size + 1, 0, none⟩) (by simp)]; exact hc0
 have k1 : w'.cell? ⟨w.heap.size + 1, 1, none⟩ = some v := by rw [h2.cell (p := ⟨w.heap.size + 1, 1, none⟩) (by simp)]; exact hc1
 have g0 : w'.frozen? ⟨w.heap.size + 1, 0, none⟩ = false := by rw [h2.frozen (p := ⟨w.heap.size + 1, 0, none⟩) (by simp)]; exact hf0
 have g1 : w'.frozen? ⟨w.heap.size + 1, 1, none⟩ = false := by rw [h2.frozen (p := ⟨w.heap.size + 1, 1, none⟩) (by simp)]; exact hf1
 refine ⟨⟨hy, hst, (hbl.trans (h2.mono (by omega))).setCell (p := ⟨w.heap.size + 1, 1, none⟩) (by simp) _, ?_, ?_, ?_, ?_⟩, ?_, ?_⟩
 ·have := h2.size; simp; omega
 ·rw [World.cell?_setCell_other _ _ _ _ (by intro e; cases e)]; exact k0
 ·simp [go_sem, g0]
 ·simp [go_sem, g1]
 ·exact World.cell?_setCell_same _ _ _ k1
 ·rw [vs_snoc, List.length_append]
  exact hown'.kept (grown_set _ ⟨w.heap.size + 1, 1, none⟩ _) (by
   have := hown'.lt
   cases e : v'.ownBlock with
   | none => exact .inl rfl
   | some k => exact .inr (fun h => by cases h; have h3 : w.heap.size + 2 ≤ w.heap.size + 1 := (this _ e).1; omega))
set_option maxHeartbeats 1000000 in
theorem of_any (n : Int) (w : World) (h0 : -9223372036854775808 ≤ n) (h1 : n ≤ 9223372036854775807) :
 Calls Tryz.prog 58 #[.int .i64 n] w (SomeNum n w []) := by
 obtain ⟨i0, hi, hz0, hz1, hz2⟩ := info_parts info5
 go_enter Tryz.func58, Tryz.ntmps58
 go_wp2_with fail
 go_loopw [0, 4] (fun a _ wr => ∃ (y : Int) (ds : List Nat) (v : Value), a = .int .i64 y ∧ OfRel n (w.heap.size + 1) (decide (n < 0)) w y ds wr ∧ wr.cell? ⟨w.heap.size + 1, 1, none⟩ = some v ∧ wr.ownsRow (w.heap.size + 2) 5 1 v ds.length (vs ds)) (fun a _ _ => (intOf a).natAbs)
 case atStart => exact ⟨n, [], .slice none 0 0, rfl, ⟨⟨h0, h1⟩, by simp, (Below.refl _ _).alloc (by simp) _, by simp, by simp [go_sem], by simp [go_sem], by simp [go_sem]⟩, by simp [go_sem], World.ownsRow_nil _ _ _ _⟩
 case round =>
  obtain ⟨y, ds, v, rfl, R, hc1, hown⟩ := hrel
  obtain ⟨hbd, hdg, hbl, hsz, hc0, hf0, hf1⟩ := R
  have r0 : wr.cell? ⟨w.heap.size, 0, none⟩ = some (.bool false) := by rw [hbl.cell (p := ⟨w.heap.size, 0, none⟩) (by simp)]; simp [go_sem]
  have r1 : wr.cell? ⟨w.heap.size, 1, none⟩ = some (.slice none 0 0) := by rw [hbl.cell (p := ⟨w.heap.size, 1, none⟩) (by simp)]; simp [go_sem]
  have g0 : wr.frozen? ⟨w.heap.size, 0, none⟩ = false := by rw [hbl.frozen (p := ⟨w.heap.size, 0, none⟩) (by simp)]; simp [go_sem]
  have g1 : wr.frozen? ⟨w.heap.size, 1, none⟩ = false := by rw [hbl.frozen (p := ⟨w.heap.size, 1, none⟩) (by simp)]; simp [go_sem]
  have HDG := Lib.hid hdg; clear hdg
  have HOWN := Lib.hid hown; clear hown
  by_cases hy : y = 0
  ·subst hy
   have hds : ds = dg n.natAbs := by have := HDG.out; rw [show (Int.natAbs 0) = 0 from rfl, dg_zero, List.append_nil] at this; exact this
   obtain ⟨a, cap, rfl, hD, hf⟩ := own_digs HOWN.out (by have := len_of HDG.out h0 h1; omega)
   have HD := Lib.hid hD; clear hD
   have HF := Lib.hid hf; clear hf
   have HDS := Lib.hid hds; clear hds HDG HOWN
   go_wp2_with fail
   have hD := HD.out
   have hS := HDS.out
   rw [hS] at hD ⊢
   refine bodyPost_ret (v := .agg #[.bool (decide (n < 0)), .slice a (dg n.natAbs).length cap]) (by simp [results, Tryz.results58, go_sem, r0, r1]) rfl ?_
   exact SomeNum.stored rfl ((below1 w _).trans (hbl.mono (by omega))) (Nat.le_refl _) hD (fun p hp => .inl (by have := HF.out p hp; omega)) (fun _ h => by cases h)
  ·have hm := tmod_sign y 10
   have ha := (tmod_abs y 10 (by omega)).1 (by omega)
   have hq := tdiv_bound y 10 hbd.1 hbd.2 (by omega)
   have hst := dg_step HDG.out hy
   have hln := len_of HDG.out h0 h1
   have HST := Lib.hid hst; clear hst
   have hy1 : (y != 0) = true := by simp [hy]
   have hown := HOWN.out
   obtain ⟨q1, q2⟩ := hq
   obtain ⟨b1, b2⟩ := hbd
   obtain ⟨ha1, ha2⟩ := ha
   by_cases hneg : y.tmod 10 < 0
   ·have hd9 : (y.tmod 10).natAbs = -(y.tmod 10) := by omega
    have HD9 := Lib.hid hd9; clear hd9 hm hown
    go_wp2_with (at_builtin; refine wpList_append_own _ rfl (.tmp 17) (.tmp 20) 82 rfl (w.heap.size + 2) 5 i0 (.int .u8 0) 1 1 Tryz.underlying82 hi hz0 hz1 hz2 rfl (by decide) v ds.length (vs ds) rfl (HOWN.out.alloc _) ⟨wr.heap.size, 0, none⟩ 1 1 [.int .u8 (-y.tmod 10)] rfl rfl ?c1 ?c2 ?c3 ?c4 ?c5 ?_)
    case c1 => exact one_new _ _ _
    case c2 => intro u hu; simp at hu; subst hu; rfl
    case c3 => unfold maxLen; omega
    case c4 => omega
    case c5 => simp; omega
    intro v' w' hown' hgrow _
    obtain ⟨a', cap', rfl⟩ := own_shape hown'
    rw [← HD9.out] at hown'
    have hr := round_of hbl hsz hc0 hf0 hf1 hc1 HOWN.out (below1 _ _) hgrow _ hown' HST.out ⟨q1, q2⟩
    have HR := Lib.hid hr; clear hr
    have h2 : Below (w.heap.size + 2) wr w' := ((below1 wr _).mono (by omega)).grown hgrow (by simp; omega) (fun k hk => (HOWN.out.lt k hk).1)
    have k1 : w'.cell? ⟨w.heap.size + 1, 1, none⟩ = some v := by rw [h2.cell (p := ⟨w.heap.size + 1, 1, none⟩) (by simp)]; exact hc1
    have kf1 : w'.frozen? ⟨w.heap.size + 1, 1, none⟩ = false := by rw [h2.frozen (p := ⟨w.heap.size + 1, 1, none⟩) (by simp)]; exact hf1
    clear hown' hgrow h2
    go_wp2_with fail
    go_roundw
    case rel => exact ⟨_, _, _, rfl, HR.out⟩
    case measure =>
     have e2 : (y.tdiv 10).natAbs = y.natAbs / 10 := Int.natAbs_tdiv y 10
     show (y.tdiv 10).natAbs < y.natAbs
     omega
   ·have hd9 : (y.tmod 10).natAbs = y.tmod 10 := by omega
    have hp9 : 0 ≤ y.tmod 10 := by omega
    have HD9 := Lib.hid hd9; clear hd9 hm hown
    go_wp2_with (at_builtin; refine wpList_append_own _ rfl (.tmp 17) (.tmp 20) 82 rfl (w.heap.size + 2) 5 i0 (.int .u8 0) 1 1 Tryz.underlying82 hi hz0 hz1 hz2 rfl (by decide) v ds.length (vs ds) rfl (HOWN.out.alloc _) ⟨wr.heap.size, 0, none⟩ 1 1 [.int .u8 (y.tmod 10)] rfl rfl ?d1 ?d2 ?d3 ?d4 ?d5 ?_)
    case d2 => rfl
    case d3 => unfold maxLen; omega
    case d4 => omega
    case d5 => omega
    intro v' w' hown' hgrow _
    obtain ⟨a', cap', rfl⟩ := own_shape hown'
    rw [← HD9.out] at hown'
    have hr := round_of hbl hsz hc0 hf0 hf1 hc1 HOWN.out (below1 _ _) hgrow _ hown' HST.out ⟨q1, q2⟩
    have HR := Lib.hid hr; clear hr
    have h2 : Below (w.heap.size + 2) wr w' := ((below1 wr _).mono (by omega)).grown hgrow (by simp; omega) (fun k hk => (HOWN.out.lt k hk).1)
    have k1 : w'.cell? ⟨w.heap.size + 1, 1, none⟩ = some v := by rw [h2.cell (p := ⟨w.heap.size + 1, 1, none⟩) (by simp)]; exact hc1
    have kf1 : w'.frozen? ⟨w.heap.size + 1, 1, none⟩ = false := by rw [h2.frozen (p := ⟨w.heap.size + 1, 1, none⟩) (by simp)]; exact hf1
    clear hown' hgrow h2
    go_wp2_with fail
    go_roundw
    case rel => exact ⟨_, _, _, rfl, HR.out⟩
    case measure =>
     have e2 : (y.tdiv 10).natAbs = y.natAbs / 10 := Int.natAbs_tdiv y 10
     show (y.tdiv 10).natAbs < y.natAbs
     omega
end Go.Proofs.YteddfolhpoikcaaGreatDoor.R1
namespace Go.Proofs.YteddfolhpoikcaaGreatDoor.R1
open Go.RowKit

theorem digit_q (v : Value) (ds : List Nat) (i : Nat) (w : World) (h : Digs w v ds) (hi : i ≤ 1000000) (h9 : ∀ d ∈ ds, d ≤ 9) :
 Calls Tryz.prog 74 #[v, .int .i64 i] w fun e w' => e = .returned (.int .i64 (at0 ds i)) ∧ w' = w :=
 (digit_any v ds i w h hi h9).mono fun _ _ ⟨a, b⟩ => ⟨a, b.symm⟩

theorem one_newN (w : World) (n : Nat) (x : Value) (t : TypeId) : ∀ j u, [x][j]? = some u → ((w.drewN n).alloc (.cells #[x] t)).cell? ((⟨w.heap.size, 0, none⟩ : Addr).add j) = some u := one_new (w.drewN n) x t
theorem size_newN (w : World) (n k : Nat) (o : Obj) (h : k ≤ w.heap.size) : k ≤ ((w.drewN n).alloc o).heap.size := by simp; omega
theorem at0_behind {l : List Nat} {i : Nat} (h : l.length ≤ i) : at0 l i = 0 := by unfold at0; rw [List.getD_eq_getElem?_getD, List.getElem?_eq_none h]; rfl
/-- what the loop of a sum (a difference) leaves: the digits so far, in the own block k; the argument blocks as they were -/
structure SumRel (k : Nat) (neg : Bool) (w0 : World) (ds : List Nat) (v : Value) (wr : World) : Prop where
 below : Below k w0 wr
 size : k < wr.heap.size
 c0 : wr.cell? ⟨k, 0, none⟩ = some (.bool neg)
 c1 : wr.cell? ⟨k, 1, none⟩ = some v
 f0 : wr.frozen? ⟨k, 0, none⟩ = false
 f1 : wr.frozen? ⟨k, 1, none⟩ = false
 own : wr.ownsRow (k + 1) 5 1 v ds.length (vs ds)
theorem SumRel.round {k : Nat} {neg : Bool} {w0 wr wa w' : World} {ds : List Nat} {v v' : Value} (R : SumRel k neg w0 ds v wr) (ha : Below wr.heap.size wr wa) (hg : wa.grownBy w' v.ownBlock) (d : Nat) (hown' : w'.ownsRow (k + 1) 5 1 v' (ds.length + 1) (vs ds ++ [.int .u8 d])) :
 SumRel k neg w0 (ds ++ [d]) v' (w'.setCell ⟨k, 1, none⟩ v') ∧ w'.cell? ⟨k, 1, none⟩ = some v ∧ w'.frozen? ⟨k, 1, none⟩ = false := by
 obtain ⟨hbl, hsz, hc0, hc1, hf0, hf1, hown⟩ := R
 have h2 : Below (k + 1) wr w' := (ha.mono (by omega)).grown hg (by have := ha.size; omega) (fun j hj => (hown.lt j hj).1)
 have k0 : w'.cell? ⟨k, 0, none⟩ = some (.bool neg) := by rw [h2.cell (p := ⟨k, 0, none⟩) (by simp)]; exact hc0
 have k1 : w'.cell? ⟨k, 1, none⟩ = some v := by rw [h2.cell (p := ⟨k, 1, none⟩) (by simp)]; exact hc1
 have g0 : w'.frozen? ⟨k, 0, none⟩ = false := by rw [h2.frozen (p := ⟨k, 0, none⟩) (by simp)]; exact hf0
 have g1 : w'.frozen? ⟨k, 1, none⟩ = false := by rw [h2.frozen (p := ⟨k, 1, none⟩) (by simp)]; exact hf1
 refine ⟨⟨(hbl.trans (h2.mono (by omega))).setCell (p := ⟨k, 1, none⟩) (by simp) _, ?_, ?_, World.cell?_setCell_same _ _ _ k1, ?_, ?_, ?_⟩, k1, g1⟩
 ·have := h2.size; simp; omega
 ·rw [World.cell?_setCell_other _ _ _ _ (by intro e; cases e)]; exact k0
 ·simp [go_sem, g0]
 ·simp [go_sem, g1]
 ·rw [vs_snoc, List.length_append]
  exact hown'.kept (grown_set _ ⟨k, 1, none⟩ _) (by
   have := hown'.lt
   cases e : v'.ownBlock with
   | none => exact .inl rfl
   | some j => exact .inr (fun h => by cases h; have h3 : k + 1 ≤ k := (this _ e).1; omega))
theorem sum_step {A B ds : List Nat} {c T : Nat} (h : vl ds + 10 ^ ds.length * (c + vl (A.drop ds.length) + vl (B.drop ds.length)) = T) :
 vl (ds ++ [(at0 A ds.length + at0 B ds.length + c) % 10]) + 10 ^ (ds ++ [(at0 A ds.length + at0 B ds.length + c) % 10]).length * ((at0 A ds.length + at0 B ds.length + c) / 10 + vl (A.drop (ds.length + 1)) + vl (B.drop (ds.length + 1))) = T := by
 rw [vl_snoc, List.length_append, List.length_singleton, Nat.pow_succ, ← h, vl_drop A ds.length, vl_drop B ds.length]
 generalize at0 A ds.length = x
 generalize at0 B ds.length = y
 generalize vl (A.drop (ds.length + 1)) = X
 generalize vl (B.drop (ds.length + 1)) = Y
 rw [Nat.add_assoc, Nat.mul_assoc, ← Nat.mul_add]
 congr 2
 omega

set_option maxHeartbeats 1000000 in
theorem add_same (x y : Int) (va vb : Value) (w : World) (ha : Digs w va (dg x.natAbs)) (hb : Digs w vb (dg y.natAbs)) (hs : decide (x < 0) = decide (y < 0)) (hx : (dg x.natAbs).length ≤ 1000) (hy : (dg y.natAbs).length ≤ 1000) :
 Calls Tryz.prog 57 #[.agg #[.bool (decide (x < 0)), va], .agg #[.bool (decide (y < 0)), vb]] w (SomeNum (x + y) w []) := by
 obtain ⟨i0, hi, hz0, hz1, hz2⟩ := info_parts info5
 obtain ⟨p1, q1, rfl⟩ := ha.head
 obtain ⟨p2, q2, rfl⟩ := hb.head
 rw [← hs]
 have HA := Lib.hid ha; clear ha
 have HB := Lib.hid hb; clear hb
 have HS := Lib.hid hs; clear hs
 generalize hA : dg x.natAbs = A at *
 generalize hB : dg y.natAbs = B at *
 have H1 := Lib.hid hA; clear hA
 have H2 := Lib.hid hB; clear hB
 generalize hneg : decide (x < 0) = neg at *
 have HN := Lib.hid hneg; clear hneg
 go_enter Tryz.func57, Tryz.ntmps57
 go_wp2_with fail
 go_loopw [6, 7] (fun c i wr => ∃ (cn : Nat) (ds : List Nat) (v : Value), c = .int .i64 cn ∧ i = .int .i64 ds.length ∧ cn ≤ 1 ∧ cn + ds.length ≤ 1001 ∧ Hid ((∀ d ∈ ds, d ≤ 9) ∧ vl ds + 10 ^ ds.length * (cn + vl (A.drop ds.length) + vl (B.drop ds.length)) = x.natAbs + y.natAbs) ∧ SumRel (w.heap.size + 1 + 1 + 1) neg (((w.alloc (.cells #[.bool neg, .slice p1 A.length q1] NT)).alloc (.cells #[.bool neg, .slice p2 B.length q2] NT)).alloc (.cells #[.bool false, .slice none 0 0] NT)) ds v wr) (fun c i _ => 2000 - (intOf i).toNat)
 case atStart => exact ⟨0, [], .slice none 0 0, rfl, rfl, by omega, by simp, Lib.hid ⟨by simp, by rw [← H1.out, ← H2.out]; simp [vl, vl_dg]⟩, ⟨(Below.refl _ _).alloc (by simp) _, by simp, by simp [go_sem], by simp [go_sem], by simp [go_sem], by simp [go_sem], World.ownsRow_nil _ _ _ _⟩⟩
 case round =>
  obtain ⟨cn, ds, v, rfl, rfl, hc, hl, hv, R⟩ := hrel
  have hbl := R.below
  have hA1 : wr.cell? ⟨w.heap.size, 1, none⟩ = some (.slice p1 A.length q1) := by rw [hbl.cell (p := ⟨w.heap.size, 1, none⟩) (show w.heap.size < w.heap.size + 1 + 1 + 1 by omega)]; simp [go_sem]
  have hB1 : wr.cell? ⟨w.heap.size + 1, 1, none⟩ = some (.slice p2 B.length q2) := by rw [hbl.cell (p := ⟨w.heap.size + 1, 1, none⟩) (show w.heap.size + 1 < w.heap.size + 1 + 1 + 1 by omega)]; simp [go_sem]
  have hc1 := R.c1
  by_cases hcond : ds.length < A.length ∨ ds.length < B.length ∨ 0 < cn
  ·have dA : Digs wr (.slice p1 A.length q1) A := HA.out.below ((below3 w _ _ _).trans (hbl.mono (by omega)))
   have dB : Digs wr (.slice p2 B.length q2) B := HB.out.below ((below3 w _ _ _).trans (hbl.mono (by omega)))
   have a9 : ∀ d ∈ A, d ≤ 9 := by rw [← H1.out]; exact dg_le _
   have b9 : ∀ d ∈ B, d ≤ 9 := by rw [← H2.out]; exact dg_le _
   have kA := at0_le A a9 ds.length
   have kB := at0_le B b9 ds.length
   have cA := fun nq => digit_q (.slice p1 A.length q1) A ds.length (wr.drewN nq) (dA.below (below_drewN (Below.refl _ _) nq)) (by omega) a9
   have cB := fun nq => digit_q (.slice p2 B.length q2) B ds.length (wr.drewN nq) (dB.below (below_drewN (Below.refl _ _) nq)) (by omega) b9
   have CA := Lib.hid cA; clear cA
   have CB := Lib.hid cB; clear cB
   have DA := Lib.hid dA; clear dA
   have DB := Lib.hid dB; clear dB
   clear a9 b9
   have RR := Lib.hid R; clear R
   have zA : ds.length < A.length ∨ at0 A ds.length = 0 := by
    by_cases h : ds.length < A.length
    ·exact .inl h
    ·exact .inr (at0_behind (by omega))
   have zB : ds.length < B.length ∨ at0 B ds.length = 0 := by
    by_cases h : ds.length < B.length
    ·exact .inl h
    ·exact .inr (at0_behind (by omega))
   generalize hda : at0 A ds.length = da at *
   generalize hdb : at0 B ds.length = db at *
   have HDA := Lib.hid hda; clear hda
   have ZA := Lib.hid zA; clear zA
   have ZB := Lib.hid zB; clear zB
   have HDB := Lib.hid hdb; clear hdb
   have e1 : ((da : Int) + (db : Int) + (cn : Int)) % 10 = (((da + db + cn) % 10 : Nat) : Int) := by omega
   have E1 := Lib.hid e1; clear e1
   have e2 : ((da : Int) + (db : Int) + (cn : Int)) / 10 = (((da + db + cn) / 10 : Nat) : Int) := by omega
   have E2 := Lib.hid e2; clear e2
   have ht : (ds.length < A.length) ∨ (¬ ds.length < A.length ∧ ds.length < B.length) ∨ (¬ ds.length < A.length ∧ ¬ ds.length < B.length ∧ 0 < cn) := by omega
   clear hcond
   have ws0 : 0 ≤ (da : Int) + (db : Int) + (cn : Int) := by omega
   have ws1 : IntKind.i64.wrap ((da : Int) + (db : Int)) = (da : Int) + (db : Int) := IntWalk.i64_in _ (by omega)
   have ws2 : IntKind.i64.wrap ((da : Int) + (db : Int) + (cn : Int)) = (da : Int) + (db : Int) + (cn : Int) := IntWalk.i64_in _ (by omega)
   have RO : ∀ nq, (wr.drewN nq).ownsRow (w.heap.size + 1 + 1 + 1 + 1) 5 1 v ds.length (vs ds) := fun nq => RR.out.own
   have RO := Lib.hid RO
   rcases ht with t1 | ⟨t1, t2⟩ | ⟨t1, t2, t3⟩
   all_goals
    go_wp2_with fail
    go_quiet ((first | (go_at_call 74; with_reducible exact Calls.quiet_of_same (CA.out _)) | (go_at_call 74; with_reducible exact Calls.quiet_of_same (CB.out _))))
    clear ws1 ws2
    go_wp2_with (at_builtin; refine wpList_append_own _ rfl (.tmp 51) (.tmp 55) 82 rfl (w.heap.size + 1 + 1 + 1 + 1) 5 i0 (.int .u8 0) 1 1 Tryz.underlying82 hi hz0 hz1 hz2 rfl (by decide) v ds.length (vs ds) rfl ((RO.out _).alloc _) ⟨wr.heap.size, 0, none⟩ 1 1 [.int .u8 (((da : Int) + (db : Int) + (cn : Int)) % 10)] rfl rfl (one_newN _ _ _ _) (by intro u hu; simp at hu; subst hu; rfl) (by unfold maxLen; omega) (by omega) (size_newN _ _ _ _ RR.out.size) ?_)
    intro v' w' hown' hgrow _
    obtain ⟨a', cap', rfl⟩ := own_shape hown'
    rw [E1.out] at hown'
    obtain ⟨hR, k1, kf1⟩ := RR.out.round ((below_drewN (Below.refl _ _) _).alloc (by simp) _) hgrow _ hown'
    have HR := Lib.hid hR; clear hR
    clear hown' hgrow
    go_wp2_with fail
    go_roundw
    case rel => exact ⟨(da + db + cn) / 10, ds ++ [(da + db + cn) % 10], _, by rw [E2.out], by simp, by omega, by have := ZA.out; have := ZB.out; simp; omega, Lib.hid ⟨by
     intro d hd
     rcases List.mem_append.1 hd with h | h
     ·exact hv.out.1 d h
     ·simp at h; omega, by
     have := sum_step (A := A) (B := B) hv.out.2
     rw [HDA.out, HDB.out] at this
     rw [List.length_append, List.length_singleton] at this ⊢
     exact this⟩, HR.out⟩
    case measure => simp [intOf]; omega
  ·have hz : cn = 0 := by omega
   subst hz
   obtain ⟨a, cap, rfl, hD, hf⟩ := own_digs R.own (by omega)
   have hval : nv neg ds = x + y := by
    have h := hv.out.2
    rw [List.drop_eq_nil_of_le (by omega), List.drop_eq_nil_of_le (by omega)] at h
    have h2 : vl ds = x.natAbs + y.natAbs := by simpa [vl] using h
    have hn := HN.out
    have hs := HS.out
    unfold nv
    rw [h2]
    cases neg with
    | true =>
     have g1 : x < 0 := of_decide_eq_true hn
     have g2 : y < 0 := of_decide_eq_true hs.symm
     simp; omega
    | false =>
     have g1 : ¬ x < 0 := of_decide_eq_false hn
     have g2 : ¬ y < 0 := of_decide_eq_false hs.symm
     simp; omega
   have r0 : wr.cell? ⟨w.heap.size + 1 + 1, 0, none⟩ = some (.bool false) := by rw [hbl.cell (p := ⟨w.heap.size + 1 + 1, 0, none⟩) (show w.heap.size + 1 + 1 < w.heap.size + 1 + 1 + 1 by omega)]; simp [go_sem]
   have r1 : wr.cell? ⟨w.heap.size + 1 + 1, 1, none⟩ = some (.slice none 0 0) := by rw [hbl.cell (p := ⟨w.heap.size + 1 + 1, 1, none⟩) (show w.heap.size + 1 + 1 < w.heap.size + 1 + 1 + 1 by omega)]; simp [go_sem]
   have g0 : wr.frozen? ⟨w.heap.size + 1 + 1, 0, none⟩ = false := by rw [hbl.frozen (p := ⟨w.heap.size + 1 + 1, 0, none⟩) (show w.heap.size + 1 + 1 < w.heap.size + 1 + 1 + 1 by omega)]; simp [go_sem]
   have g1 : wr.frozen? ⟨w.heap.size + 1 + 1, 1, none⟩ = false := by rw [hbl.frozen (p := ⟨w.heap.size + 1 + 1, 1, none⟩) (show w.heap.size + 1 + 1 < w.heap.size + 1 + 1 + 1 by omega)]; simp [go_sem]
   have hsz := R.size
   have HB2 := Lib.hid ((below3 w _ _ _).trans (hbl.mono (show w.heap.size ≤ w.heap.size + 1 + 1 + 1 by omega)))
   have ct := fun (w1 : World) (h : Digs w1 (.slice a ds.length cap) ds) => ref_trim neg _ ds w1 h hv.out.1
   rw [hval] at ct
   have CT := Lib.hid ct; clear ct
   have HD := Lib.hid hD; clear hD
   have HF := Lib.hid hf; clear hf
   have hc0 := R.c0
   clear R hval hbl
   have t1 : ¬ ds.length < A.length := by omega
   have t2 : ¬ ds.length < B.length := by omega
   clear hcond
   go_wp2_with fail
   refine (CT.out _ HD.out).mono ?_
   rintro e w1 ⟨⟨a1, cap1, rfl, hd1, hf1⟩, hb1⟩
   have D1 := Lib.hid hd1; clear hd1
   have c0 : w1.cell? ⟨w.heap.size + 1 + 1, 0, none⟩ = some (.bool false) := by rw [hb1.cell (p := ⟨w.heap.size + 1 + 1, 0, none⟩) (show w.heap.size + 1 + 1 < wr.heap.size by omega)]; exact r0
   have c1 : w1.cell? ⟨w.heap.size + 1 + 1, 1, none⟩ = some (.slice none 0 0) := by rw [hb1.cell (p := ⟨w.heap.size + 1 + 1, 1, none⟩) (show w.heap.size + 1 + 1 < wr.heap.size by omega)]; exact r1
   have f0 : w1.frozen? ⟨w.heap.size + 1 + 1, 0, none⟩ = false := by rw [hb1.frozen (p := ⟨w.heap.size + 1 + 1, 0, none⟩) (show w.heap.size + 1 + 1 < wr.heap.size by omega)]; exact g0
   have f1 : w1.frozen? ⟨w.heap.size + 1 + 1, 1, none⟩ = false := by rw [hb1.frozen (p := ⟨w.heap.size + 1 + 1, 1, none⟩) (show w.heap.size + 1 + 1 < wr.heap.size by omega)]; exact g1
   have hb0 := HB2.out.trans (hb1.mono (by omega))
   clear hb1 r0 r1 g0 g1
   have HF1 := Lib.hid hf1; clear hf1
   go_wp2_with fail
   refine bodyPost_ret (v := .agg #[.bool (decide (x + y < 0)), .slice a1 (dg (x + y).natAbs).length cap1]) (by simp [results, Tryz.results57, go_sem, c0, c1]) rfl ?_
   exact SomeNum.stored rfl hb0 (by omega) D1.out (fun p hp => .inl (by
    rcases HF1.out p hp with h | h
    ·omega
    ·cases a with
     | none => simp [sb] at h
     | some q => simp [sb] at h; have := HF.out q rfl; omega)) (fun _ h => by cases h)
end Go.Proofs.YteddfolhpoikcaaGreatDoor.R1
namespace Go.Proofs.YteddfolhpoikcaaGreatDoor.R1
open Go.RowKit

theorem decDigits_dg (u : Nat) (h : 0 < u) : Lib.decDigits u = (dg u).reverse.map fun d => UInt8.ofNat (48 + d) := by
 induction u using Nat.strongRecOn with
 | _ u ih =>
  rw [Lib.decDigits, dg_pos (by omega)]
  by_cases g : u < 10
  ·rw [dif_pos g, show u / 10 = 0 from by omega, dg_zero, show u % 10 = u from by omega]; rfl
  ·rw [dif_neg g, ih (u / 10) (by omega) (by omega)]; simp
def sgn (x : Int) : List Nat := if x < 0 then [45] else []
def textL (x : Int) : List Nat := sgn x ++ (dg x.natAbs).reverse.map (48 + ·)
theorem itoa_textL (x : Int) (h : ¬ x = 0) : Lib.itoa x = (textL x).map fun d => UInt8.ofNat d := by
 unfold Lib.itoa textL sgn
 by_cases g : x < 0
 ·rw [if_pos g, if_pos g, decDigits_dg _ (by omega)]; simp [Function.comp_def]
 ·rw [if_neg g, if_neg g, show x.toNat = x.natAbs from by omega, decDigits_dg _ (by omega)]; simp [Function.comp_def]
theorem drop_at0 {l : List Nat} {m : Nat} (h : m < l.length) : l.drop m = at0 l m :: l.drop (m + 1) := by
 rw [List.drop_eq_getElem_cons h]
 unfold at0
 rw [List.getD_eq_getElem?_getD, List.getElem?_eq_getElem h]; rfl
theorem conv_own {w : World} {base : Nat} {v : Value} {ds : List Nat} (h : w.ownsRow base 5 1 v ds.length (vs ds)) (hp : 0 < ds.length) :
 (convert 82 9 v).run Tryz.prog w = .ok (.string ⟨(ds.map fun d => UInt8.ofNat d).toArray⟩) w := by
 have h2 := h
 obtain ⟨_, ⟨rfl, hn⟩ | ⟨g, cap, cur, rfl, hb, hh, hc, hm, _, _⟩⟩ := h
 ·omega
 ·have := run_convert_bytes_arg (P := Tryz.prog) w 82 5 Tryz.underlying82 Tryz.underlying5 g 0 ds.length cap (ds.map fun (d : Nat) => (d : Int)) (by simp) (fun i hi => by
   rw [Nat.zero_add, h2.cellAt i (by omega), vs_at ds i hi]
   unfold at0
   rw [List.getD_eq_getElem?_getD, List.getD_eq_getElem?_getD, List.getElem?_map, List.getElem?_eq_getElem hi]
   rfl) 9 Tryz.underlying9
  rw [this]
  unfold strOfNums
  simp [Function.comp_def]

set_option maxHeartbeats 1000000 in
theorem text_zero (va : Value) (w : World) (h : Digs w va (dg (0 : Int).natAbs)) :
 Calls Tryz.prog 81 #[.agg #[.bool (decide ((0 : Int) < 0)), va]] w fun e w' => e = .returned (.string ⟨(Lib.itoa 0).toArray⟩) ∧ Below w.heap.size w w' := by
 obtain ⟨p1, q1, rfl⟩ := h.head
 have e : (dg (0 : Int).natAbs).length = 0 := by simp [dg_zero]
 rw [e]
 have hi : Lib.itoa 0 = [48] := by unfold Lib.itoa; rw [if_neg (by decide), Lib.decDigits]; rfl
 have HI := Lib.hid hi; clear hi e h
 go_enter Tryz.func81, Tryz.ntmps81
 go_wp2_with fail
 go_ret
 exact ⟨by rw [HI.out]; rfl, below1 _ _⟩

set_option maxRecDepth 100000 in
set_option maxHeartbeats 1000000 in
theorem text_some (x : Int) (va : Value) (w : World) (hd : Digs w va (dg x.natAbs)) (hx : (dg x.natAbs).length ≤ 1000) (h0 : ¬ x = 0) :
 Calls Tryz.prog 81 #[.agg #[.bool (decide (x < 0)), va]] w fun e w' => e = .returned (.string ⟨(Lib.itoa x).toArray⟩) ∧ Below w.heap.size w w' := by
 obtain ⟨i0, hi, hz0, hz1, hz2⟩ := info_parts info5
 have hpos : 0 < (dg x.natAbs).length := by
  rcases Nat.eq_zero_or_pos (dg x.natAbs).length with e | e
  ·have := dg_nil.1 (List.length_eq_zero_iff.1 e); omega
  ·exact e
 have hit := itoa_textL x h0
 unfold textL at hit
 obtain ⟨b, cap, rfl, hb, _, hcap, hmax, hcells⟩ := hd.slice hpos
 have h9 := dg_le x.natAbs
 generalize dg x.natAbs = D at *
 have HIT := Lib.hid hit; clear hit
 have HC := Lib.hid hcells; clear hcells
 have H9 := Lib.hid h9; clear h9 hd
 have hneg : (decide (x < 0) = true ∧ sgn x = [45]) ∨ (decide (x < 0) = false ∧ sgn x = []) := by
  unfold sgn
  by_cases g : x < 0
  ·exact .inl ⟨decide_eq_true g, if_pos g⟩
  ·exact .inr ⟨decide_eq_false g, if_neg g⟩
 clear h0
 generalize decide (x < 0) = neg at *
 generalize sgn x = S at *
 unfold maxLen at hmax
 have hl0 : ((D.length : Int) == 0) = false := beq_eq_false_iff_ne.2 (by omega)
 rcases hneg with ⟨rfl, rfl⟩ | ⟨rfl, rfl⟩
 ·go_enter Tryz.func81, Tryz.ntmps81
  go_wp2_with (at_builtin; refine wpList_append_own _ rfl (.tmp 11) (.tmp 12) 82 rfl (w.heap.size + 1) 5 i0 (.int .u8 0) 1 1 Tryz.underlying82 hi hz0 hz1 hz2 rfl (by decide) (.slice none 0 0) 0 [] rfl (World.ownsRow_nil _ _ _ _) ⟨w.heap.size + 1, 0, none⟩ 1 1 [.int .u8 45] rfl rfl ?c1 ?c2 ?c3 ?c4 ?c5 ?_)
  case c1 =>
   intro j u hj
   have h := one_new (w.alloc (.cells #[.bool true, .slice (some ⟨b, 0, none⟩) D.length cap] NT)) (.int .u8 45) 5 j u hj
   rw [World.size_alloc] at h
   exact h
  case c2 => intro u hu; simp at hu; subst hu; rfl
  case c3 => unfold maxLen; omega
  case c4 => omega
  case c5 => simp
  intro v0 w0 hown0 hgrow0 _
  have h20 : Below (w.heap.size + 1) (w.alloc (.cells #[.bool true, .slice (some ⟨b, 0, none⟩) D.length cap] NT)) w0 := ((below1 (w.alloc _) _).mono (by simp)).grown hgrow0 (by simp) (fun j hj => by cases hj)
  have hA10 : w0.cell? ⟨w.heap.size, 1, none⟩ = some (.slice (some ⟨b, 0, none⟩) D.length cap) := by rw [h20.cell (p := ⟨w.heap.size, 1, none⟩) (by simp)]; simp [go_sem]
  have hs0 : w.heap.size + 1 ≤ w0.heap.size := by have := h20.size; simp at this; omega
  obtain ⟨a0, cap0, rfl⟩ := own_shape hown0
  have HO0 := Lib.hid hown0; clear hown0 hgrow0
  have HB0 := Lib.hid h20; clear h20
  go_wp2_with fail
  go_loopw [3, 4] (fun v i wr => ∃ (z : Int) (ds : List Nat), -1 ≤ z ∧ z < D.length ∧ i = .int .i64 z ∧ ds.length ≤ 1001 - z ∧ Hid (ds = ([45] : List Nat) ++ (D.drop (z + 1).toNat).reverse.map (48 + ·)) ∧ Below (w.heap.size + 1) (w.alloc (.cells #[.bool true, .slice (some ⟨b, 0, none⟩) D.length cap] NT)) wr ∧ w.heap.size + 1 ≤ wr.heap.size ∧ wr.ownsRow (w.heap.size + 1) 5 1 v ds.length (vs ds)) (fun v i _ => (intOf i + 1).toNat)
  case atStart => exact ⟨(D.length : Int) - 1, [45], by omega, by omega, rfl, by simp; omega, Lib.hid (by rw [show ((D.length : Int) - 1 + 1).toNat = D.length from by omega]; simp), HB0.out, hs0, HO0.out⟩
  case round =>
   obtain ⟨z, ds, hz1', hz2', rfl, hln, hds, hbl, hsz, hown⟩ := hrel
   have hA1 : wr.cell? ⟨w.heap.size, 1, none⟩ = some (.slice (some ⟨b, 0, none⟩) D.length cap) := by rw [hbl.cell (p := ⟨w.heap.size, 1, none⟩) (by simp)]; simp [go_sem]
   have hbw : Below w.heap.size w wr := (below1 w _).trans (hbl.mono (by omega))
   by_cases hz : 0 ≤ z
   ·obtain ⟨m, rfl⟩ := Int.eq_ofNat_of_zero_le hz
    have c1 : wr.cell? ⟨b, m, none⟩ = some (.int .u8 (at0 D m)) := by rw [hbw.cell (p := ⟨b, m, none⟩) hb]; exact HC.out m (by omega)
    have k9 := at0_le D H9.out m
    have e1 : (48 : Int) + (at0 D m : Int) = ((48 + at0 D m : Nat) : Int) := by omega
    have E1 := Lib.hid e1; clear e1
    have HOWN := Lib.hid hown; clear hown
    go_wp2_with (at_builtin; refine wpList_append_own _ rfl (.tmp 22) (.tmp 29) 82 rfl (w.heap.size + 1) 5 i0 (.int .u8 0) 1 1 Tryz.underlying82 hi hz0 hz1 hz2 rfl (by decide) _ ds.length (vs ds) rfl (HOWN.out.alloc _) ⟨wr.heap.size, 0, none⟩ 1 1 [.int .u8 (48 + (at0 D m : Int))] rfl rfl (one_new _ _ _) (by intro u hu; simp at hu; subst hu; rfl) (by unfold maxLen; omega) (by omega) (by simp; omega) ?_)
    intro v' w' hown' hgrow _
    obtain ⟨a', cap', rfl⟩ := own_shape hown'
    rw [E1.out] at hown'
    have h2 : Below (w.heap.size + 1) wr w' := ((below1 wr _).mono (by omega)).grown hgrow (by simp; omega) (fun j hj => (HOWN.out.lt j hj).1)
    have hown2 : w'.ownsRow (w.heap.size + 1) 5 1 (.slice a' (ds.length + 1) cap') (ds ++ [48 + at0 D m]).length (vs (ds ++ [48 + at0 D m])) := by rw [vs_snoc, List.length_append]; exact hown'
    have HO2 := Lib.hid hown2; clear hown2
    have hs2 : w.heap.size + 1 ≤ w'.heap.size := by have := h2.size; omega
    have HB3 := Lib.hid (hbl.trans h2)
    clear hown' hgrow h2 hbl hbw
    go_wp2_with fail
    go_roundw
    case rel =>
     first
      | exact ⟨(m : Int) - 1, ds ++ [48 + at0 D m], by omega, by omega, rfl, by rw [List.length_append, List.length_singleton]; omega, Lib.hid (by
      have e := hds.out
      rw [show ((m : Int) + 1).toNat = m + 1 from by omega] at e
      rw [show ((m : Int) - 1 + 1).toNat = m from by omega, drop_at0 (by omega), e]
      simp), HB3.out, hs2, HO2.out⟩
      | ((repeat apply Exists.intro); exact ⟨⟨(m : Int) - 1, ds ++ [48 + at0 D m], by omega, by omega, rfl, by rw [List.length_append, List.length_singleton]; omega, Lib.hid (by
      have e := hds.out
      rw [show ((m : Int) + 1).toNat = m + 1 from by omega] at e
      rw [show ((m : Int) - 1 + 1).toNat = m from by omega, drop_at0 (by omega), e]
      simp), HB3.out, hs2, HO2.out⟩, rfl⟩)
    case measure => simp [intOf] <;> omega
   ·have hz3 : z = -1 := by omega
    subst hz3
    have hd2 : ds = ([45] : List Nat) ++ D.reverse.map (48 + ·) := hds.out
    have hp : 0 < ds.length := by rw [hd2]; simp <;> omega
    have hcv := conv_own hown hp
    have hfin : ds.map (fun d => UInt8.ofNat d) = Lib.itoa x := by rw [HIT.out, hd2]
    rw [hfin] at hcv
    obtain ⟨a', cap', rfl⟩ := own_shape hown
    clear hd2 hp hfin hown
    go_wp2_with fail
    go_ret
    exact ⟨rfl, hbw⟩
 ·go_enter Tryz.func81, Tryz.ntmps81
  go_wp2_with fail
  go_loopw [3, 4] (fun v i wr => ∃ (z : Int) (ds : List Nat), -1 ≤ z ∧ z < D.length ∧ i = .int .i64 z ∧ ds.length ≤ 1001 - z ∧ Hid (ds = ([] : List Nat) ++ (D.drop (z + 1).toNat).reverse.map (48 + ·)) ∧ Below (w.heap.size + 1) (w.alloc (.cells #[.bool false, .slice (some ⟨b, 0, none⟩) D.length cap] NT)) wr ∧ w.heap.size + 1 ≤ wr.heap.size ∧ wr.ownsRow (w.heap.size + 1) 5 1 v ds.length (vs ds)) (fun v i _ => (intOf i + 1).toNat)
  case atStart => exact ⟨(D.length : Int) - 1, [], by omega, by omega, rfl, by simp; omega, Lib.hid (by rw [show ((D.length : Int) - 1 + 1).toNat = D.length from by omega]; simp), Below.refl _ _, by simp, World.ownsRow_nil _ _ _ _⟩
  case round =>
   obtain ⟨z, ds, hz1', hz2', rfl, hln, hds, hbl, hsz, hown⟩ := hrel
   have hA1 : wr.cell? ⟨w.heap.size, 1, none⟩ = some (.slice (some ⟨b, 0, none⟩) D.length cap) := by rw [hbl.cell (p := ⟨w.heap.size, 1, none⟩) (by simp)]; simp [go_sem]
   have hbw : Below w.heap.size w wr := (below1 w _).trans (hbl.mono (by omega))
   by_cases hz : 0 ≤ z
   ·obtain ⟨m, rfl⟩ := Int.eq_ofNat_of_zero_le hz
    have c1 : wr.cell? ⟨b, m, none⟩ = some (.int .u8 (at0 D m)) := by rw [hbw.cell (p := ⟨b, m, none⟩) hb]; exact HC.out m (by omega)
    have k9 := at0_le D H9.out m
    have e1 : (48 : Int) + (at0 D m : Int) = ((48 + at0 D m : Nat) : Int) := by omega
    have E1 := Lib.hid e1; clear e1
    have HOWN := Lib.hid hown; clear hown
    go_wp2_with (at_builtin; refine wpList_append_own _ rfl (.tmp 22) (.tmp 29) 82 rfl (w.heap.size + 1) 5 i0 (.int .u8 0) 1 1 Tryz.underlying82 hi hz0 hz1 hz2 rfl (by decide) _ ds.length (vs ds) rfl (HOWN.out.alloc _) ⟨wr.heap.size, 0, none⟩ 1 1 [.int .u8 (48 + (at0 D m : Int))] rfl rfl (one_new _ _ _) (by intro u hu; simp at hu; subst hu; rfl) (by unfold maxLen; omega) (by omega) (by simp; omega) ?_)
    intro v' w' hown' hgrow _
    obtain ⟨a', cap', rfl⟩ := own_shape hown'
    rw [E1.out] at hown'
    have h2 : Below (w.heap.size + 1) wr w' := ((below1 wr _).mono (by omega)).grown hgrow (by simp; omega) (fun j hj => (HOWN.out.lt j hj).1)
    have hown2 : w'.ownsRow (w.heap.size + 1) 5 1 (.slice a' (ds.length + 1) cap') (ds ++ [48 + at0 D m]).length (vs (ds ++ [48 + at0 D m])) := by rw [vs_snoc, List.length_append]; exact hown'
    have HO2 := Lib.hid hown2; clear hown2
    have hs2 : w.heap.size + 1 ≤ w'.heap.size := by have := h2.size; omega
    have HB3 := Lib.hid (hbl.trans h2)
    clear hown' hgrow h2 hbl hbw
    go_wp2_with fail
    go_roundw
    case rel =>
     first
      | exact ⟨(m : Int) - 1, ds ++ [48 + at0 D m], by omega, by omega, rfl, by rw [List.length_append, List.length_singleton]; omega, Lib.hid (by
      have e := hds.out
      rw [show ((m : Int) + 1).toNat = m + 1 from by omega] at e
      rw [show ((m : Int) - 1 + 1).toNat = m from by omega, drop_at0 (by omega), e]
      simp), HB3.out, hs2, HO2.out⟩
      | ((repeat apply Exists.intro); exact ⟨⟨(m : Int) - 1, ds ++ [48 + at0 D m], by omega, by omega, rfl, by rw [List.length_append, List.length_singleton]; omega, Lib.hid (by
      have e := hds.out
      rw [show ((m : Int) + 1).toNat = m + 1 from by omega] at e
      rw [show ((m : Int) - 1 + 1).toNat = m from by omega, drop_at0 (by omega), e]
      simp), HB3.out, hs2, HO2.out⟩, rfl⟩)
    case measure => simp [intOf] <;> omega
   ·have hz3 : z = -1 := by omega
    subst hz3
    have hd2 : ds = ([] : List Nat) ++ D.reverse.map (48 + ·) := hds.out
    have hp : 0 < ds.length := by rw [hd2]; simp <;> omega
    have hcv := conv_own hown hp
    have hfin : ds.map (fun d => UInt8.ofNat d) = Lib.itoa x := by rw [HIT.out, hd2]
    rw [hfin] at hcv
    obtain ⟨a', cap', rfl⟩ := own_shape hown
    clear hd2 hp hfin hown
    go_wp2_with fail
    go_ret
    exact ⟨rfl, hbw⟩

theorem ref_text (x : Int) (va : Value) (w : World) (hd : Digs w va (dg x.natAbs)) (hx : (dg x.natAbs).length ≤ 1000) :
 Calls Tryz.prog 81 #[.agg #[.bool (decide (x < 0)), va]] w fun e w' => e = .returned (.string ⟨(Lib.itoa x).toArray⟩) ∧ Below w.heap.size w w' := by
 by_cases h : x = 0
 ·subst h; exact text_zero va w hd
 ·exact text_some x va w hd hx h
end Go.Proofs.YteddfolhpoikcaaGreatDoor.R1
namespace Go.Proofs.YteddfolhpoikcaaGreatDoor.R1
open Go.RowKit

theorem valM_append (a b : List UInt8) : ∀ acc, valM acc (a ++ b) = valM (valM acc a) b := by
 induction a with
 | nil => intro acc; rfl
 | cons x t ih => intro acc; exact ih _
theorem valM_one (acc : Nat) (c : UInt8) : valM acc [c] = acc * 10 + (c.toNat - 48) := rfl
theorem digit_nat (d : Nat) (h : d ≤ 9) : (UInt8.ofNat (48 + d)).toNat = 48 + d := by
 rw [UInt8.toNat_ofNat']; omega
/-- the text of a number is a text, and says the number -/
theorem valM_map (l : List Nat) (h : ∀ d ∈ l, d ≤ 9) : valM 0 (l.reverse.map fun d => UInt8.ofNat (48 + d)) = vl l := by
 induction l with
 | nil => rfl
 | cons d r ih =>
  have hd := h d (by simp)
  have hr := ih (fun x hx => h x (by simp [hx]))
  rw [List.reverse_cons, List.map_append, valM_append, hr]
  show valM (vl r) [UInt8.ofNat (48 + d)] = d + 10 * vl r
  rw [valM_one, digit_nat d hd]
  omega
theorem itoa_pos (n : Nat) (h : 0 < n) : (dg n).reverse.map (fun d => UInt8.ofNat (48 + d)) ≠ [] ∧ valM 0 ((dg n).reverse.map fun d => UInt8.ofNat (48 + d)) = n ∧ (∀ c ∈ (dg n).reverse.map (fun d => UInt8.ofNat (48 + d)), dig c) ∧ ∀ c r, (dg n).reverse.map (fun d => UInt8.ofNat (48 + d)) = c :: r → ¬ c.toNat = 48 := by
 refine ⟨?_, ?_, ?_, ?_⟩
 ·intro e
  have : dg n = [] := by simpa using e
  have := dg_nil.1 this; omega
 ·rw [valM_map _ (dg_le n), vl_dg]
 ·intro c hc
  simp only [List.mem_map, List.mem_reverse] at hc
  obtain ⟨d, hd, rfl⟩ := hc
  have := dg_le n d hd
  have e := digit_nat d this
  unfold dig; rw [e]; omega
 ·intro c r e
  rcases List.eq_nil_or_concat (dg n) with g | ⟨a, d, g⟩
  ·have := dg_nil.1 g; omega
  ·rw [g] at e
   simp only [List.concat_eq_append, List.reverse_append, List.reverse_cons, List.reverse_nil, List.nil_append, List.cons_append, List.map_cons, List.cons.injEq] at e
   have hd : ¬ d = 0 := fun z => dg_last n a (by rw [g, z, List.concat_eq_append])
   have hl := dg_le n d (by rw [g]; simp)
   rw [← e.1]
   have e2 := digit_nat d hl
   omega
theorem itoa_form (n : Int) : Form (Lib.itoa n) ∧ textVal (Lib.itoa n) = n ∧ (Lib.itoa n).length ≤ 1 + (dg n.natAbs).length + 1 := by
 by_cases h0 : n = 0
 ·subst h0
  have : Lib.itoa 0 = [48] := by unfold Lib.itoa; rw [if_neg (by decide), Lib.decDigits]; rfl
  rw [this]
  exact ⟨.inl rfl, by decide, by simp⟩
 ·have hp := itoa_pos n.natAbs (by omega)
  obtain ⟨h1, h2, h3, h4⟩ := hp
  have hlen : ((dg n.natAbs).reverse.map fun d => UInt8.ofNat (48 + d)).length = (dg n.natAbs).length := by simp
  unfold Lib.itoa
  by_cases hn : n < 0
  ·rw [if_pos hn, decDigits_dg _ (by omega)]
   generalize (dg n.natAbs).reverse.map (fun d => UInt8.ofNat (48 + d)) = L at *
   cases L with
   | nil => exact absurd rfl h1
   | cons c r =>
    refine ⟨.inr ⟨c, r, .inr rfl, h4 c r rfl, h3⟩, ?_, by simp at hlen ⊢; omega⟩
    rw [textVal_minus, h2]; omega
  ·rw [if_neg hn, show n.toNat = n.natAbs from by omega, decDigits_dg _ (by omega)]
   generalize (dg n.natAbs).reverse.map (fun d => UInt8.ofNat (48 + d)) = L at *
   cases L with
   | nil => exact absurd rfl h1
   | cons c r =>
    have hc := h3 c (by simp)
    unfold dig at hc
    refine ⟨.inr ⟨c, r, .inl rfl, h4 c r rfl, h3⟩, ?_, by simp at hlen ⊢; omega⟩
    rw [textVal_plain c r (by omega), h2]; omega

end Go.Proofs.YteddfolhpoikcaaGreatDoor.R1
namespace Go.Proofs.YteddfolhpoikcaaGreatDoor

def infL : List UInt8 := [105, 110, 102]
def minfL : List UInt8 := [45, 105, 110, 102]
def textE (f d : Int) : List UInt8 := if f < 0 then minfL else if 0 < f then infL else Lib.itoa d
/-- what is read: Inf, Day, the error -/
structure ParE (l : List UInt8) (f d c : Int) : Prop where
 inf : l = infL → f = 1 ∧ d = 0 ∧ c = 0
 minf : l = minfL → f = -1 ∧ d = 0 ∧ c = 0
 fits : ¬ l = infL → ¬ l = minfL → Form l → (-9223372036854775808 ≤ textVal l ∧ textVal l ≤ 9223372036854775807) → f = 0 ∧ d = textVal l ∧ c = 0
 over : ¬ l = infL → ¬ l = minfL → Form l → ¬ (-9223372036854775808 ≤ textVal l ∧ textVal l ≤ 9223372036854775807) → f = 0 ∧ d = 0 ∧ c = 15
 no : ¬ l = infL → ¬ l = minfL → ¬ Form l → f = 0 ∧ d = 0 ∧ c = 5
theorem par_is (l : List UInt8) : ∃ f d c, ParE l f d c := by
 by_cases h1 : l = infL
 ·exact ⟨1, 0, 0, fun _ => ⟨rfl, rfl, rfl⟩, fun h => by rw [h1] at h; revert h; decide, fun x => absurd h1 x, fun x => absurd h1 x, fun x => absurd h1 x⟩
 ·by_cases h2 : l = minfL
  ·exact ⟨-1, 0, 0, fun x => absurd x h1, fun _ => ⟨rfl, rfl, rfl⟩, fun _ x => absurd h2 x, fun _ x => absurd h2 x, fun _ x => absurd h2 x⟩
  ·by_cases h3 : Form l
   ·by_cases h4 : -9223372036854775808 ≤ textVal l ∧ textVal l ≤ 9223372036854775807
    ·exact ⟨0, textVal l, 0, fun x => absurd x h1, fun x => absurd x h2, fun _ _ _ _ => ⟨rfl, rfl, rfl⟩, fun _ _ _ x => absurd h4 x, fun _ _ x => absurd h3 x⟩
    ·exact ⟨0, 0, 15, fun x => absurd x h1, fun x => absurd x h2, fun _ _ _ x => absurd x h4, fun _ _ _ _ => ⟨rfl, rfl, rfl⟩, fun _ _ x => absurd h3 x⟩
   ·exact ⟨0, 0, 5, fun x => absurd x h1, fun x => absurd x h2, fun _ _ x => absurd x h3, fun _ _ x => absurd x h3, fun _ _ _ => ⟨rfl, rfl, rfl⟩⟩
theorem inf_form : ¬ Form infL ∧ ¬ Form minfL := by
 constructor <;> rintro (h | ⟨c, r, h | h, _, hd⟩)
 ·revert h; decide
 ·have := hd 105 (by rw [← h]; decide)
  revert this; unfold dig; decide
 ·have h2 : (105 : UInt8) = 45 := congrArg (fun l => l.getD 0 0) h
  revert h2; decide
 ·revert h; decide
 ·have := hd 45 (by rw [← h]; decide)
  revert this; unfold dig; decide
 ·have h2 := List.tail_eq_of_cons_eq h
  have := hd 105 (by rw [← h2]; decide)
  revert this; unfold dig; decide
/-- the text of a right end is read as the end -/
theorem text_again {f d : Int} (h : chkE f d = 0) (d0 : -9223372036854775808 ≤ d) (d1 : d ≤ 9223372036854775807) : ParE (textE f d) f d 0 := by
 have hc := chkE_zero.1 h
 obtain ⟨g, e, c, hp⟩ := par_is (textE f d)
 have key : g = f ∧ e = d ∧ c = 0 := by
  rcases hc with rfl | ⟨rfl | rfl, rfl⟩
  ·have ht : textE 0 d = Lib.itoa d := by unfold textE; rw [if_neg (by decide), if_neg (by decide)]
   obtain ⟨h1, h2, _⟩ := R1.itoa_form d
   rw [ht] at hp
   have n1 : ¬ Lib.itoa d = infL := fun x => inf_form.1 (by rw [← x]; exact h1)
   have n2 : ¬ Lib.itoa d = minfL := fun x => inf_form.2 (by rw [← x]; exact h1)
   have := hp.fits n1 n2 h1 (by rw [h2]; exact ⟨d0, d1⟩)
   rw [h2] at this
   exact this
  ·exact hp.inf rfl
  ·exact hp.minf rfl
 obtain ⟨rfl, rfl, rfl⟩ := key
 exact hp
theorem textE_len {f d : Int} (d0 : -9223372036854775808 ≤ d) (d1 : d ≤ 9223372036854775807) : (textE f d).length ≤ 60 := by
 unfold textE
 split
 ·decide
 ·split
  ·decide
  ·have h := (R1.itoa_form d).2.2
   have hn := dg_length_le d.natAbs 19 (by omega)
   omega
end Go.Proofs.YteddfolhpoikcaaGreatDoor
namespace Go.Proofs.YteddfolhpoikcaaGreatDoor

/-- the text of a run -/
def textR (r : Rn) : List UInt8 := textE r.f r.d ++ [46, 46] ++ textE r.g r.e
theorem textR_len {r : Rn} (hr : r.In) : (textR r).length ≤ 122 := by
 have := textE_len (f := r.f) hr.d0 hr.d1
 have := textE_len (f := r.g) hr.e0 hr.e1
 unfold textR
 simp only [List.length_append, List.length_cons, List.length_nil]
 omega
/-- two points at a place -/
def dd (l : List UInt8) (i : Nat) : Prop := l[i]? = some 46 ∧ l[i + 1]? = some 46
/-- the first two points -/
structure CutAt (l : List UInt8) (j : Nat) : Prop where
 two : dd l j
 first : ∀ i, i < j → ¬ dd l i
def NoCut (l : List UInt8) : Prop := ∀ i, ¬ dd l i
theorem CutAt.lt {l : List UInt8} {j : Nat} (h : CutAt l j) : j + 1 < l.length := (List.getElem?_eq_some_iff.1 h.two.2).1
theorem cut_cases (l : List UInt8) : NoCut l ∨ ∃ j, CutAt l j := by
 have key : ∀ n, (∀ i, i < n → ¬ dd l i) ∨ ∃ j, CutAt l j := by
  intro n
  induction n with
  | zero => left; intro i hi; omega
  | succ n ih =>
   rcases ih with h | h
   ·by_cases hd : dd l n
    ·exact .inr ⟨n, hd, h⟩
    ·left
     intro i hi
     by_cases e : i = n
     ·rw [e]; exact hd
     ·exact h i (by omega)
   ·exact .inr h
 rcases key l.length with h | h
 ·left
  intro i hi
  exact h i (List.getElem?_eq_some_iff.1 hi.1).1 hi
 ·exact .inr h
/-- what is read: the run, the error -/
def ParR (l : List UInt8) (r : Rn) (c : Int) : Prop :=
 (NoCut l ∧ r = zeroR ∧ c = 5) ∨ ∃ j f d p g e q, CutAt l j ∧ ParE (l.take j) f d p ∧ ParE (l.drop (j + 2)) g e q ∧
  ((p = 5 ∨ q = 5) ∧ r = zeroR ∧ c = 5 ∨ ¬ (p = 5 ∨ q = 5) ∧ ¬ (p = 0 ∧ q = 0) ∧ r = zeroR ∧ c = 15 ∨
   (p = 0 ∧ q = 0) ∧ ¬ chkR ⟨f, d, g, e⟩ = 0 ∧ r = zeroR ∧ c = chkR ⟨f, d, g, e⟩ ∨ (p = 0 ∧ q = 0) ∧ chkR ⟨f, d, g, e⟩ = 0 ∧ r = ⟨f, d, g, e⟩ ∧ c = 0)
theorem parR_is (l : List UInt8) : ∃ r c, ParR l r c := by
 rcases cut_cases l with h | ⟨j, hj⟩
 ·exact ⟨zeroR, 5, .inl ⟨h, rfl, rfl⟩⟩
 ·obtain ⟨f, d, p, h1⟩ := par_is (l.take j)
  obtain ⟨g, e, q, h2⟩ := par_is (l.drop (j + 2))
  by_cases h5 : p = 5 ∨ q = 5
  ·exact ⟨zeroR, 5, .inr ⟨j, f, d, p, g, e, q, hj, h1, h2, .inl ⟨h5, rfl, rfl⟩⟩⟩
  ·by_cases h0 : p = 0 ∧ q = 0
   ·by_cases hc : chkR ⟨f, d, g, e⟩ = 0
    ·exact ⟨⟨f, d, g, e⟩, 0, .inr ⟨j, f, d, p, g, e, q, hj, h1, h2, .inr (.inr (.inr ⟨h0, hc, rfl, rfl⟩))⟩⟩
    ·exact ⟨zeroR, chkR ⟨f, d, g, e⟩, .inr ⟨j, f, d, p, g, e, q, hj, h1, h2, .inr (.inr (.inl ⟨h0, hc, rfl, rfl⟩))⟩⟩
   ·exact ⟨zeroR, 15, .inr ⟨j, f, d, p, g, e, q, hj, h1, h2, .inr (.inl ⟨h5, h0, rfl, rfl⟩)⟩⟩
theorem chkR_le (r : Rn) : chkR r = 0 ∨ chkR r = 4 ∨ chkR r = 5 ∨ chkR r = 12 := by
 unfold chkR
 split
 ·split
  ·omega
  ·split <;> omega
 ·omega
theorem ParR.zero {l : List UInt8} {r : Rn} {c : Int} (h : ParR l r c) (hc : ¬ c = 0) : r = zeroR := by
 rcases h with ⟨_, h, _⟩ | ⟨j, f, d, p, g, e, q, _, _, _, ⟨_, h, _⟩ | ⟨_, _, h, _⟩ | ⟨_, _, h, _⟩ | ⟨_, _, _, h⟩⟩
 ·exact h
 ·exact h
 ·exact h
 ·exact h
 ·exact absurd h hc
theorem ParE.range {l : List UInt8} {f d p : Int} (h : ParE l f d p) : -9223372036854775808 ≤ d ∧ d ≤ 9223372036854775807 := by
 by_cases h1 : l = infL
 ·have := h.inf h1; omega
 ·by_cases h2 : l = minfL
  ·have := h.minf h2; omega
  ·by_cases h3 : Form l
   ·by_cases h4 : -9223372036854775808 ≤ textVal l ∧ textVal l ≤ 9223372036854775807
    ·have := h.fits h1 h2 h3 h4; omega
    ·have := h.over h1 h2 h3 h4; omega
   ·have := h.no h1 h2 h3; omega
/-- no text of an end has a point -/
theorem form_point {l : List UInt8} (h : Form l) : (46 : UInt8) ∉ l := by
 rcases h with rfl | ⟨c, r, h | h, _, hd⟩
 ·decide
 ·rw [h]; intro hm; have := hd 46 hm; revert this; unfold dig; decide
 ·rw [h]
  intro hm
  rcases List.mem_cons.1 hm with e | hm
  ·revert e; decide
  ·have := hd 46 hm; revert this; unfold dig; decide
theorem textE_point (f d : Int) : (46 : UInt8) ∉ textE f d := by
 unfold textE
 split
 ·decide
 ·split
  ·decide
  ·exact form_point (R1.itoa_form d).1
/-- the text of a right run is read as the run -/
theorem textR_again {r : Rn} (hr : r.In) (h : chkR r = 0) : ParR (textR r) r 0 := by
 have ho := (chkR_zero hr).1 h
 have c1 : chkE r.f r.d = 0 := chkE_zero.2 (by have := ho.lof; omega)
 have c2 : chkE r.g r.e = 0 := chkE_zero.2 (by have := ho.hif; omega)
 have h1 := text_again c1 hr.d0 hr.d1
 have h2 := text_again c2 hr.e0 hr.e1
 have n1 := textE_point r.f r.d
 unfold textR
 generalize textE r.f r.d = a at *
 generalize textE r.g r.e = b at *
 right
 refine ⟨a.length, r.f, r.d, 0, r.g, r.e, 0, ⟨⟨?_, ?_⟩, ?_⟩, ?_, ?_, .inr (.inr (.inr ⟨⟨rfl, rfl⟩, h, rfl, rfl⟩))⟩
 ·rw [List.append_assoc, List.getElem?_append_right (Nat.le_refl _), Nat.sub_self]; rfl
 ·rw [List.append_assoc, List.getElem?_append_right (by omega), show a.length + 1 - a.length = 1 by omega]; rfl
 ·intro i hi hd
  have := hd.1
  rw [List.append_assoc, List.getElem?_append_left hi] at this
  exact n1 (List.mem_of_getElem? this)
 ·rw [List.append_assoc, List.take_append_of_le_length (Nat.le_refl _), List.take_length]; exact h1
 ·rw [show a.length + 2 = (a ++ [46, 46]).length by simp, List.drop_append_of_le_length (Nat.le_refl _), List.drop_length, List.nil_append]; exact h2
end Go.Proofs.YteddfolhpoikcaaGreatDoor
