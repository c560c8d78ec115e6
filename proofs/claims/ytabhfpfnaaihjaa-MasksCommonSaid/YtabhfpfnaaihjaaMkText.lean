/-
  DERIVED. CONTRACTS of the whole numbers' reference (Of, Text) at a seat that has no package ints. Written by mkmktext.py.
-/
import Derived.Test.YtabhfpfnaaihjaaMkCommon
import Derived.Test.YtabhfpfnaaihjaaNum
import Derived.Test.YtabhfpfnaaihjaaMath
import Derived.Lib.Hide
import Derived.BigQuiet
import Derived.Deep.QuietTactic
import Derived.WalkSmall
import Derived.Deep.LoopGhost
import Derived.Lib.ItoaNum
import Derived.Laws.BytesArg
namespace Go.Proofs.Ytabhfpfnaaihjaa.R1
open Go.RowKit

theorem ret_int {k : IntKind} {a b : Int} (h : a = b) : Ending.returned (.int k a) = .returned (.int k b) := by rw [h]
theorem ret_bool {a b : Bool} (h : a = b) : Ending.returned (.bool a) = .returned (.bool b) := by rw [h]
theorem ret_two {a b c d : Value} (h : a = c) (g : b = d) : Ending.returned (.tuple #[a, b]) = .returned (.tuple #[c, d]) := by rw [h, g]
theorem bcell {W w1 : World} (hb : Below W.heap.size W w1) : (∀ b o, b < W.heap.size → w1.cell? ⟨b, o, none⟩ = W.cell? ⟨b, o, none⟩) ∧ (∀ b o, b < W.heap.size → w1.frozen? ⟨b, o, none⟩ = W.frozen? ⟨b, o, none⟩) :=
  ⟨fun b o h => hb.cell (p := ⟨b, o, none⟩) h, fun b o h => hb.frozen (p := ⟨b, o, none⟩) h⟩

theorem below1 (w : World) (o1 : Obj) : Below w.heap.size w (w.alloc o1) := (Below.refl _ _).alloc (Nat.le_refl _) _
theorem below2 (w : World) (o1 o2 : Obj) : Below w.heap.size w ((w.alloc o1).alloc o2) := (below1 w o1).alloc (by simp) _
theorem below3 (w : World) (o1 o2 o3 : Obj) : Below w.heap.size w (((w.alloc o1).alloc o2).alloc o3) := (below2 w o1 o2).alloc (by simp; omega) _
theorem below4 (w : World) (o1 o2 o3 o4 : Obj) : Below w.heap.size w ((((w.alloc o1).alloc o2).alloc o3).alloc o4) := (below3 w o1 o2 o3).alloc (by simp; omega) _
/-- a slice of bytes reads as these digits -/
def Digs (w : World) (v : Value) (ds : List Nat) : Prop :=
  (v = .slice none 0 0 ∧ ds = []) ∨ ∃ b cap, v = .slice (some ⟨b, 0, none⟩) ds.length cap ∧ b < w.heap.size ∧ ds.length ≤ 1000000 ∧ ds.length ≤ cap ∧ cap ≤ maxLen ∧ ∀ i, i < ds.length → w.cell? ⟨b, i, none⟩ = some (.int .u8 (at0 ds i))
theorem Digs.below {w w' : World} {v : Value} {ds : List Nat} (h : Digs w v ds) (hb : Below w.heap.size w w') : Digs w' v ds := by
  rcases h with h | ⟨b, cap, h1, h2, h3, h4, h5, h6⟩
  · exact .inl h
  · exact .inr ⟨b, cap, h1, Nat.lt_of_lt_of_le h2 hb.size, h3, h4, h5, fun i hi => by rw [hb.cell (p := ⟨b, i, none⟩) h2]; exact h6 i hi⟩
theorem Digs.len {w : World} {v : Value} {ds : List Nat} (h : Digs w v ds) : ds.length ≤ 1000000 := by
  rcases h with ⟨_, rfl⟩ | ⟨_, _, _, _, h, _⟩
  · simp
  · exact h

theorem Digs.slice {w : World} {v : Value} {ds : List Nat} (h : Digs w v ds) (hn : 0 < ds.length) : ∃ b cap, v = .slice (some ⟨b, 0, none⟩) ds.length cap ∧ b < w.heap.size ∧ ds.length ≤ 1000000 ∧ ds.length ≤ cap ∧ cap ≤ maxLen ∧ ∀ i, i < ds.length → w.cell? ⟨b, i, none⟩ = some (.int .u8 (at0 ds i)) := by
  rcases h with ⟨_, rfl⟩ | h
  · simp at hn
  · exact h
theorem Digs.head {w : World} {v : Value} {ds : List Nat} (h : Digs w v ds) : ∃ a cap, v = .slice a ds.length cap := by
  rcases h with ⟨rfl, rfl⟩ | ⟨b, cap, h, _⟩
  · exact ⟨none, 0, rfl⟩
  · exact ⟨_, cap, h⟩
def sb : Value → List Nat
  | .slice (some p) _ _ => [p.block]
  | _ => []
/-- a whole number is handed back, in a slice of a new block, or of one of the blocks S -/
def SomeNum (x : Int) (w : World) (S : List Nat) (e : Ending) (w' : World) : Prop :=
  (∃ a cap, e = .returned (.agg #[.bool (decide (x < 0)), .slice a (dg x.natAbs).length cap]) ∧ Digs w' (.slice a (dg x.natAbs).length cap) (dg x.natAbs) ∧ ∀ p, a = some p → w.heap.size ≤ p.block ∨ p.block ∈ S) ∧ Below w.heap.size w w'
abbrev NT : TypeId := 47
theorem sb_lt {w : World} {v : Value} {ds : List Nat} (h : Digs w v ds) : ∀ b ∈ sb v, b < w.heap.size := by
  rcases h with ⟨rfl, rfl⟩ | ⟨b, cap, rfl, h2, _⟩
  · intro b hb; simp [sb] at hb
  · intro c hc; simp [sb] at hc; omega
theorem Digs.setCell {w : World} {a : Option Addr} {n cap : Nat} {ds : List Nat} {k o : Nat} {u : Value} (h : Digs w (.slice a n cap) ds) (hk : ∀ p, a = some p → ¬ p.block = k) : Digs (w.setCell ⟨k, o, none⟩ u) (.slice a n cap) ds := by
  rcases h with h | ⟨b, c, h1, h2, h3, h4, h5, h6⟩
  · exact .inl h
  · cases h1
    refine .inr ⟨b, _, rfl, by simpa using h2, h3, h4, h5, fun i hi => ?_⟩
    have hne := hk _ rfl
    rw [World.cell?_setCell_other _ _ _ _ (by intro e; cases e; exact hne rfl)]
    exact h6 i hi
/-- behind the store of a struct into the block of the result -/
theorem SomeNum.stored {x : Int} {w w1 : World} {S : List Nat} {a : Option Addr} {cap k : Nat} {e : Ending} {u0 u1 : Value} (he : e = .returned (.agg #[.bool (decide (x < 0)), .slice a (dg x.natAbs).length cap]))
    (hb : Below w.heap.size w w1) (hk : w.heap.size ≤ k) (hd : Digs w1 (.slice a (dg x.natAbs).length cap) (dg x.natAbs)) (hf : ∀ p, a = some p → k < p.block ∨ p.block ∈ S) (hS : ∀ b ∈ S, b < w.heap.size) :
    SomeNum x w S e ((w1.setCell ⟨k, 0, none⟩ u0).setCell ⟨k, 1, none⟩ u1) := by
  have hne : ∀ p, a = some p → ¬ p.block = k := fun p hp e => by
    rcases hf p hp with h | h
    · omega
    · have := hS _ h; omega
  exact ⟨⟨a, cap, he, (hd.setCell hne).setCell hne, fun p hp => (hf p hp).imp (fun h => by omega) id⟩, (hb.setCell (p := ⟨k, 0, none⟩) hk _).setCell (p := ⟨k, 1, none⟩) hk _⟩

theorem info5 : (Try.prog.info? 5).map (fun i => (i.zero, i.size, i.bytes)) = some (some (.int .u8 0), 1, 1) := by kernel_rfl
def vs (l : List Nat) : List Value := l.map fun (d : Nat) => Value.int .u8 (d : Int)
theorem vs_snoc (l : List Nat) (d : Nat) : vs (l ++ [d]) = vs l ++ [.int .u8 d] := by simp [vs]
theorem vs_length (l : List Nat) : (vs l).length = l.length := by simp [vs]

theorem vs_at (l : List Nat) (i : Nat) (h : i < l.length) : (vs l)[i]? = some (.int .u8 (at0 l i)) := by
  unfold vs at0
  rw [List.getElem?_map, List.getD_eq_getElem?_getD, List.getElem?_eq_getElem h]; rfl
theorem own_digs {w : World} {base : Nat} {v : Value} {ds : List Nat} (h : w.ownsRow base 5 1 v ds.length (vs ds)) (hl : ds.length ≤ 1000000) :
    ∃ a cap, v = .slice a ds.length cap ∧ Digs w (.slice a ds.length cap) ds ∧ ∀ p, a = some p → base ≤ p.block := by
  have h2 := h
  obtain ⟨_, ⟨rfl, hn⟩ | ⟨g, cap, cur, rfl, hb, hh, hc, hm, _, _⟩⟩ := h
  · have : ds = [] := List.length_eq_zero_iff.1 hn
    subst this
    exact ⟨none, 0, rfl, .inl ⟨rfl, rfl⟩, fun _ e => by cases e⟩
  · refine ⟨_, cap, rfl, .inr ⟨g, cap, rfl, (Array.getElem?_eq_some_iff.1 hh).1, hl, hc, hm, fun i hi => ?_⟩, fun p e => by cases e; exact hb⟩
    rw [h2.cellAt i (by omega)]
    exact vs_at ds i hi
theorem dg_step {y n : Int} {ds : List Nat} (h : ds ++ dg y.natAbs = dg n.natAbs) (hy : ¬ y = 0) : (ds ++ [(y.tmod 10).natAbs]) ++ dg (y.tdiv 10).natAbs = dg n.natAbs := by
  have e1 : (y.tmod 10).natAbs = y.natAbs % 10 := Int.natAbs_tmod y 10
  have e2 : (y.tdiv 10).natAbs = y.natAbs / 10 := Int.natAbs_tdiv y 10
  rw [e1, e2, List.append_assoc, ← h]
  have : ¬ y.natAbs = 0 := by omega
  rw [dg_pos this]; rfl
theorem len_of {y n : Int} {ds : List Nat} (h : ds ++ dg y.natAbs = dg n.natAbs) (h0 : -9223372036854775808 ≤ n) (h1 : n ≤ 9223372036854775807) : ds.length ≤ 19 := by
  have e := congrArg List.length h
  rw [List.length_append] at e
  have := dg_length_le n.natAbs 19 (by omega)
  omega
theorem one_new (w : World) (x : Value) (t : TypeId) : ∀ j u, [x][j]? = some u → (w.alloc (.cells #[x] t)).cell? ((⟨w.heap.size, 0, none⟩ : Addr).add j) = some u := by
  intro j u hj
  match j, hj with
  | 0, hj => simp at hj; subst hj; simp [Addr.add]
  | j + 1, hj => simp at hj
/-- what the loop of Of leaves after some rounds: the number that is left, the digits so far, the number's own block k -/
structure OfRel (n : Int) (k : Nat) (neg : Bool) (w : World) (y : Int) (ds : List Nat) (wr : World) : Prop where
  bound : -9223372036854775808 ≤ y ∧ y ≤ 9223372036854775807
  digits : ds ++ dg y.natAbs = dg n.natAbs
  below : Below (w.heap.size + 1) (w.alloc (.cells #[.bool false, .slice none 0 0] NT)) wr
  size : k < wr.heap.size
  c0 : wr.cell? ⟨k, 0, none⟩ = some (.bool neg)
  f0 : wr.frozen? ⟨k, 0, none⟩ = false
  f1 : wr.frozen? ⟨k, 1, none⟩ = false

theorem grown_set (W : World) (p : Addr) (v : Value) : W.grownBy (W.setCell p v) (some p.block) :=
  ⟨rfl, rfl, rfl, (Below.setCell (Below.refl 0 W) (p := p) (Nat.zero_le _) v).size, fun k _ hk => Below.heap_setCell _ _ _ k (fun e => hk (by rw [e]))⟩
theorem own_shape {w : World} {base : Nat} {e : TypeId} {v : Value} {n : Nat} {xs : List Value} (h : w.ownsRow base e 1 v n xs) : ∃ a cap, v = .slice a n cap := by
  obtain ⟨_, ⟨rfl, rfl⟩ | ⟨g, cap, cur, rfl, _⟩⟩ := h
  · exact ⟨none, 0, rfl⟩
  · exact ⟨_, cap, rfl⟩
/-- one round of the loop: the relation of what it leaves -/
theorem round_of {n : Int} {w wr wa w' : World} {y : Int} {ds : List Nat} {v v' : Value} (hbl : Below (w.heap.size + 1) (w.alloc (.cells #[.bool false, .slice none 0 0] NT)) wr) (hsz : w.heap.size + 1 < wr.heap.size)
    (hc0 : wr.cell? ⟨w.heap.size + 1, 0, none⟩ = some (.bool (decide (n < 0)))) (hf0 : wr.frozen? ⟨w.heap.size + 1, 0, none⟩ = false) (hf1 : wr.frozen? ⟨w.heap.size + 1, 1, none⟩ = false) (hc1 : wr.cell? ⟨w.heap.size + 1, 1, none⟩ = some v)
    (hown : wr.ownsRow (w.heap.size + 2) 5 1 v ds.length (vs ds)) (ha : Below wr.heap.size wr wa) (hg : wa.grownBy w' v.ownBlock) (d : Nat) (hown' : w'.ownsRow (w.heap.size + 2) 5 1 v' (ds.length + 1) (vs ds ++ [.int .u8 d]))
    (hst : ds ++ [d] ++ dg y.natAbs = dg n.natAbs) (hy : -9223372036854775808 ≤ y ∧ y ≤ 9223372036854775807) :
    OfRel n (w.heap.size + 1) (decide (n < 0)) w y (ds ++ [d]) (w'.setCell ⟨w.heap.size + 1, 1, none⟩ v') ∧ (w'.setCell ⟨w.heap.size + 1, 1, none⟩ v').cell? ⟨w.heap.size + 1, 1, none⟩ = some v' ∧ (w'.setCell ⟨w.heap.size + 1, 1, none⟩ v').ownsRow (w.heap.size + 2) 5 1 v' (ds ++ [d]).length (vs (ds ++ [d])) := by
  have h2 : Below (w.heap.size + 2) wr w' := (ha.mono (by omega)).grown hg (by have := ha.size; omega) (fun k hk => (hown.lt k hk).1)
  have k0 : w'.cell? ⟨w.heap.size + 1, 0, none⟩ = some (.bool (decide (n < 0))) := by rw [h2.cell (p := ⟨w.heap.size + 1, 0, none⟩) (by simp)]; exact hc0
  have k1 : w'.cell? ⟨w.heap.size + 1, 1, none⟩ = some v := by rw [h2.cell (p := ⟨w.heap.size + 1, 1, none⟩) (by simp)]; exact hc1
  have g0 : w'.frozen? ⟨w.heap.size + 1, 0, none⟩ = false := by rw [h2.frozen (p := ⟨w.heap.size + 1, 0, none⟩) (by simp)]; exact hf0
  have g1 : w'.frozen? ⟨w.heap.size + 1, 1, none⟩ = false := by rw [h2.frozen (p := ⟨w.heap.size + 1, 1, none⟩) (by simp)]; exact hf1
  refine ⟨⟨hy, hst, (hbl.trans (h2.mono (by omega))).setCell (p := ⟨w.heap.size + 1, 1, none⟩) (by simp) _, ?_, ?_, ?_, ?_⟩, ?_, ?_⟩
  · have := h2.size; simp; omega
  · rw [World.cell?_setCell_other _ _ _ _ (by intro e; cases e)]; exact k0
  · simp [go_sem, g0]
  · simp [go_sem, g1]
  · exact World.cell?_setCell_same _ _ _ k1
  · rw [vs_snoc, List.length_append]
    exact hown'.kept (grown_set _ ⟨w.heap.size + 1, 1, none⟩ _) (by
      have := hown'.lt
      cases e : v'.ownBlock with
      | none => exact .inl rfl
      | some k => exact .inr (fun h => by cases h; have h3 : w.heap.size + 2 ≤ w.heap.size + 1 := (this _ e).1; omega))
set_option maxHeartbeats 1000000 in
theorem of_any (n : Int) (w : World) (h0 : -9223372036854775808 ≤ n) (h1 : n ≤ 9223372036854775807) :
    Calls Try.prog 31 #[.int .i64 n] w (SomeNum n w []) := by
  obtain ⟨i0, hi, hz0, hz1, hz2⟩ := info_parts info5
  go_enter Try.func31, Try.ntmps31
  go_wp2_with fail
  go_loopw [0, 4] (fun a _ wr => ∃ (y : Int) (ds : List Nat) (v : Value), a = .int .i64 y ∧ OfRel n (w.heap.size + 1) (decide (n < 0)) w y ds wr ∧ wr.cell? ⟨w.heap.size + 1, 1, none⟩ = some v ∧ wr.ownsRow (w.heap.size + 2) 5 1 v ds.length (vs ds)) (fun a _ _ => (intOf a).natAbs)
  case atStart => exact ⟨n, [], .slice none 0 0, rfl, ⟨⟨h0, h1⟩, by simp, (Below.refl _ _).alloc (by simp) _, by simp, by simp [go_sem], by simp [go_sem], by simp [go_sem]⟩, by simp [go_sem], World.ownsRow_nil _ _ _ _⟩
  case round =>
    obtain ⟨y, ds, v, rfl, R, hc1, hown⟩ := hrel
    obtain ⟨hbd, hdg, hbl, hsz, hc0, hf0, hf1⟩ := R
    have r0 : wr.cell? ⟨w.heap.size, 0, none⟩ = some (.bool false) := by rw [hbl.cell (p := ⟨w.heap.size, 0, none⟩) (by simp)]; simp [go_sem]
    have r1 : wr.cell? ⟨w.heap.size, 1, none⟩ = some (.slice none 0 0) := by rw [hbl.cell (p := ⟨w.heap.size, 1, none⟩) (by simp)]; simp [go_sem]
    have g0 : wr.frozen? ⟨w.heap.size, 0, none⟩ = false := by rw [hbl.frozen (p := ⟨w.heap.size, 0, none⟩) (by simp)]; simp [go_sem]
    have g1 : wr.frozen? ⟨w.heap.size, 1, none⟩ = false := by rw [hbl.frozen (p := ⟨w.heap.size, 1, none⟩) (by simp)]; simp [go_sem]
    have HDG := Lib.hid hdg; clear hdg
    have HOWN := Lib.hid hown; clear hown
    by_cases hy : y = 0
    · subst hy
      have hds : ds = dg n.natAbs := by have := HDG.out; rw [show (Int.natAbs 0) = 0 from rfl, dg_zero, List.append_nil] at this; exact this
      obtain ⟨a, cap, rfl, hD, hf⟩ := own_digs HOWN.out (by have := len_of HDG.out h0 h1; omega)
      have HD := Lib.hid hD; clear hD
      have HF := Lib.hid hf; clear hf
      have HDS := Lib.hid hds; clear hds HDG HOWN
      go_wp2_with fail
      have hD := HD.out
      have hS := HDS.out
      rw [hS] at hD ⊢
      refine bodyPost_ret (v := .agg #[.bool (decide (n < 0)), .slice a (dg n.natAbs).length cap]) (by simp [results, Try.results31, go_sem, r0, r1]) rfl ?_
      exact SomeNum.stored rfl ((below1 w _).trans (hbl.mono (by omega))) (Nat.le_refl _) hD (fun p hp => .inl (by have := HF.out p hp; omega)) (fun _ h => by cases h)
    · have hm := tmod_sign y 10
      have ha := (tmod_abs y 10 (by omega)).1 (by omega)
      have hq := tdiv_bound y 10 hbd.1 hbd.2 (by omega)
      have hst := dg_step HDG.out hy
      have hln := len_of HDG.out h0 h1
      have HST := Lib.hid hst; clear hst
      have hy1 : (y != 0) = true := by simp [hy]
      have hown := HOWN.out
      obtain ⟨q1, q2⟩ := hq
      obtain ⟨b1, b2⟩ := hbd
      obtain ⟨ha1, ha2⟩ := ha
      by_cases hneg : y.tmod 10 < 0
      · have hd9 : (y.tmod 10).natAbs = -(y.tmod 10) := by omega
        have HD9 := Lib.hid hd9; clear hd9 hm hown
        go_wp2_with (at_builtin; refine wpList_append_own _ rfl (.tmp 17) (.tmp 20) 22 rfl (w.heap.size + 2) 5 i0 (.int .u8 0) 1 1 Try.underlying22 hi hz0 hz1 hz2 rfl (by decide) v ds.length (vs ds) rfl (HOWN.out.alloc _) ⟨wr.heap.size, 0, none⟩ 1 1 [.int .u8 (-y.tmod 10)] rfl rfl ?c1 ?c2 ?c3 ?c4 ?c5 ?_)
        case c1 => exact one_new _ _ _
        case c2 => intro u hu; simp at hu; subst hu; rfl
        case c3 => unfold maxLen; omega
        case c4 => omega
        case c5 => simp; omega
        intro v' w' hown' hgrow _
        obtain ⟨a', cap', rfl⟩ := own_shape hown'
        rw [← HD9.out] at hown'
        have hr := round_of hbl hsz hc0 hf0 hf1 hc1 HOWN.out (below1 _ _) hgrow _ hown' HST.out ⟨q1, q2⟩
        have HR := Lib.hid hr; clear hr
        have h2 : Below (w.heap.size + 2) wr w' := ((below1 wr _).mono (by omega)).grown hgrow (by simp; omega) (fun k hk => (HOWN.out.lt k hk).1)
        have k1 : w'.cell? ⟨w.heap.size + 1, 1, none⟩ = some v := by rw [h2.cell (p := ⟨w.heap.size + 1, 1, none⟩) (by simp)]; exact hc1
        have kf1 : w'.frozen? ⟨w.heap.size + 1, 1, none⟩ = false := by rw [h2.frozen (p := ⟨w.heap.size + 1, 1, none⟩) (by simp)]; exact hf1
        clear hown' hgrow h2
        go_wp2_with fail
        go_roundw
        case rel => exact ⟨_, _, _, rfl, HR.out⟩
        case measure =>
          have e2 : (y.tdiv 10).natAbs = y.natAbs / 10 := Int.natAbs_tdiv y 10
          show (y.tdiv 10).natAbs < y.natAbs
          omega
      · have hd9 : (y.tmod 10).natAbs = y.tmod 10 := by omega
        have hp9 : 0 ≤ y.tmod 10 := by omega
        have HD9 := Lib.hid hd9; clear hd9 hm hown
        go_wp2_with (at_builtin; refine wpList_append_own _ rfl (.tmp 17) (.tmp 20) 22 rfl (w.heap.size + 2) 5 i0 (.int .u8 0) 1 1 Try.underlying22 hi hz0 hz1 hz2 rfl (by decide) v ds.length (vs ds) rfl (HOWN.out.alloc _) ⟨wr.heap.size, 0, none⟩ 1 1 [.int .u8 (y.tmod 10)] rfl rfl ?d1 ?d2 ?d3 ?d4 ?d5 ?_)
        case d2 => rfl
        case d3 => unfold maxLen; omega
        case d4 => omega
        case d5 => omega
        intro v' w' hown' hgrow _
        obtain ⟨a', cap', rfl⟩ := own_shape hown'
        rw [← HD9.out] at hown'
        have hr := round_of hbl hsz hc0 hf0 hf1 hc1 HOWN.out (below1 _ _) hgrow _ hown' HST.out ⟨q1, q2⟩
        have HR := Lib.hid hr; clear hr
        have h2 : Below (w.heap.size + 2) wr w' := ((below1 wr _).mono (by omega)).grown hgrow (by simp; omega) (fun k hk => (HOWN.out.lt k hk).1)
        have k1 : w'.cell? ⟨w.heap.size + 1, 1, none⟩ = some v := by rw [h2.cell (p := ⟨w.heap.size + 1, 1, none⟩) (by simp)]; exact hc1
        have kf1 : w'.frozen? ⟨w.heap.size + 1, 1, none⟩ = false := by rw [h2.frozen (p := ⟨w.heap.size + 1, 1, none⟩) (by simp)]; exact hf1
        clear hown' hgrow h2
        go_wp2_with fail
        go_roundw
        case rel => exact ⟨_, _, _, rfl, HR.out⟩
        case measure =>
          have e2 : (y.tdiv 10).natAbs = y.natAbs / 10 := Int.natAbs_tdiv y 10
          show (y.tdiv 10).natAbs < y.natAbs
          omega
theorem one_newN (w : World) (n : Nat) (x : Value) (t : TypeId) : ∀ j u, [x][j]? = some u → ((w.drewN n).alloc (.cells #[x] t)).cell? ((⟨w.heap.size, 0, none⟩ : Addr).add j) = some u := one_new (w.drewN n) x t
theorem size_newN (w : World) (n k : Nat) (o : Obj) (h : k ≤ w.heap.size) : k ≤ ((w.drewN n).alloc o).heap.size := by simp; omega

theorem decDigits_dg (u : Nat) (h : 0 < u) : Lib.decDigits u = (dg u).reverse.map fun d => UInt8.ofNat (48 + d) := by
  induction u using Nat.strongRecOn with
  | _ u ih =>
    rw [Lib.decDigits, dg_pos (by omega)]
    by_cases g : u < 10
    · rw [dif_pos g, show u / 10 = 0 from by omega, dg_zero, show u % 10 = u from by omega]; rfl
    · rw [dif_neg g, ih (u / 10) (by omega) (by omega)]; simp
def sgn (x : Int) : List Nat := if x < 0 then [45] else []
def textL (x : Int) : List Nat := sgn x ++ (dg x.natAbs).reverse.map (48 + ·)
theorem itoa_textL (x : Int) (h : ¬ x = 0) : Lib.itoa x = (textL x).map fun d => UInt8.ofNat d := by
  unfold Lib.itoa textL sgn
  by_cases g : x < 0
  · rw [if_pos g, if_pos g, decDigits_dg _ (by omega)]; simp [Function.comp_def]
  · rw [if_neg g, if_neg g, show x.toNat = x.natAbs from by omega, decDigits_dg _ (by omega)]; simp [Function.comp_def]
theorem drop_at0 {l : List Nat} {m : Nat} (h : m < l.length) : l.drop m = at0 l m :: l.drop (m + 1) := by
  rw [List.drop_eq_getElem_cons h]
  unfold at0
  rw [List.getD_eq_getElem?_getD, List.getElem?_eq_getElem h]; rfl
theorem conv_own {w : World} {base : Nat} {v : Value} {ds : List Nat} (h : w.ownsRow base 5 1 v ds.length (vs ds)) (hp : 0 < ds.length) :
    (convert 22 9 v).run Try.prog w = .ok (.string ⟨(ds.map fun d => UInt8.ofNat d).toArray⟩) w := by
  have h2 := h
  obtain ⟨_, ⟨rfl, hn⟩ | ⟨g, cap, cur, rfl, hb, hh, hc, hm, _, _⟩⟩ := h
  · omega
  · have := run_convert_bytes_arg (P := Try.prog) w 22 5 Try.underlying22 Try.underlying5 g 0 ds.length cap (ds.map fun (d : Nat) => (d : Int)) (by simp) (fun i hi => by
      rw [Nat.zero_add, h2.cellAt i (by omega), vs_at ds i hi]
      unfold at0
      rw [List.getD_eq_getElem?_getD, List.getD_eq_getElem?_getD, List.getElem?_map, List.getElem?_eq_getElem hi]
      rfl) 9 Try.underlying9
    rw [this]
    unfold strOfNums
    simp [Function.comp_def]

set_option maxHeartbeats 1000000 in
theorem text_zero (va : Value) (w : World) (h : Digs w va (dg (0 : Int).natAbs)) :
    Calls Try.prog 30 #[.agg #[.bool (decide ((0 : Int) < 0)), va]] w fun e w' => e = .returned (.string ⟨(Lib.itoa 0).toArray⟩) ∧ Below w.heap.size w w' := by
  obtain ⟨p1, q1, rfl⟩ := h.head
  have e : (dg (0 : Int).natAbs).length = 0 := by simp [dg_zero]
  rw [e]
  have hi : Lib.itoa 0 = [48] := by unfold Lib.itoa; rw [if_neg (by decide), Lib.decDigits]; rfl
  have HI := Lib.hid hi; clear hi e h
  go_enter Try.func30, Try.ntmps30
  go_wp2_with fail
  go_ret
  exact ⟨by rw [HI.out]; rfl, below1 _ _⟩

set_option maxRecDepth 100000 in
set_option maxHeartbeats 1000000 in
theorem text_some (x : Int) (va : Value) (w : World) (hd : Digs w va (dg x.natAbs)) (hx : (dg x.natAbs).length ≤ 1000) (h0 : ¬ x = 0) :
    Calls Try.prog 30 #[.agg #[.bool (decide (x < 0)), va]] w fun e w' => e = .returned (.string ⟨(Lib.itoa x).toArray⟩) ∧ Below w.heap.size w w' := by
  obtain ⟨i0, hi, hz0, hz1, hz2⟩ := info_parts info5
  have hpos : 0 < (dg x.natAbs).length := by
    rcases Nat.eq_zero_or_pos (dg x.natAbs).length with e | e
    · have := dg_nil.1 (List.length_eq_zero_iff.1 e); omega
    · exact e
  have hit := itoa_textL x h0
  unfold textL at hit
  obtain ⟨b, cap, rfl, hb, _, hcap, hmax, hcells⟩ := hd.slice hpos
  have h9 := dg_le x.natAbs
  generalize dg x.natAbs = D at *
  have HIT := Lib.hid hit; clear hit
  have HC := Lib.hid hcells; clear hcells
  have H9 := Lib.hid h9; clear h9 hd
  have hneg : (decide (x < 0) = true ∧ sgn x = [45]) ∨ (decide (x < 0) = false ∧ sgn x = []) := by
    unfold sgn
    by_cases g : x < 0
    · exact .inl ⟨decide_eq_true g, if_pos g⟩
    · exact .inr ⟨decide_eq_false g, if_neg g⟩
  clear h0
  generalize decide (x < 0) = neg at *
  generalize sgn x = S at *
  unfold maxLen at hmax
  have hl0 : ((D.length : Int) == 0) = false := beq_eq_false_iff_ne.2 (by omega)
  rcases hneg with ⟨rfl, rfl⟩ | ⟨rfl, rfl⟩
  · go_enter Try.func30, Try.ntmps30
    go_wp2_with (at_builtin; refine wpList_append_own _ rfl (.tmp 11) (.tmp 12) 22 rfl (w.heap.size + 1) 5 i0 (.int .u8 0) 1 1 Try.underlying22 hi hz0 hz1 hz2 rfl (by decide) (.slice none 0 0) 0 [] rfl (World.ownsRow_nil _ _ _ _) ⟨w.heap.size + 1, 0, none⟩ 1 1 [.int .u8 45] rfl rfl ?c1 ?c2 ?c3 ?c4 ?c5 ?_)
    case c1 =>
      intro j u hj
      have h := one_new (w.alloc (.cells #[.bool true, .slice (some ⟨b, 0, none⟩) D.length cap] NT)) (.int .u8 45) 5 j u hj
      rw [World.size_alloc] at h
      exact h
    case c2 => intro u hu; simp at hu; subst hu; rfl
    case c3 => unfold maxLen; omega
    case c4 => omega
    case c5 => simp
    intro v0 w0 hown0 hgrow0 _
    have h20 : Below (w.heap.size + 1) (w.alloc (.cells #[.bool true, .slice (some ⟨b, 0, none⟩) D.length cap] NT)) w0 := ((below1 (w.alloc _) _).mono (by simp)).grown hgrow0 (by simp) (fun j hj => by cases hj)
    have hA10 : w0.cell? ⟨w.heap.size, 1, none⟩ = some (.slice (some ⟨b, 0, none⟩) D.length cap) := by rw [h20.cell (p := ⟨w.heap.size, 1, none⟩) (by simp)]; simp [go_sem]
    have hs0 : w.heap.size + 1 ≤ w0.heap.size := by have := h20.size; simp at this; omega
    obtain ⟨a0, cap0, rfl⟩ := own_shape hown0
    have HO0 := Lib.hid hown0; clear hown0 hgrow0
    have HB0 := Lib.hid h20; clear h20
    go_wp2_with fail
    go_loopw [3, 4] (fun v i wr => ∃ (z : Int) (ds : List Nat), -1 ≤ z ∧ z < D.length ∧ i = .int .i64 z ∧ ds.length ≤ 1001 - z ∧ Hid (ds = ([45] : List Nat) ++ (D.drop (z + 1).toNat).reverse.map (48 + ·)) ∧ Below (w.heap.size + 1) (w.alloc (.cells #[.bool true, .slice (some ⟨b, 0, none⟩) D.length cap] NT)) wr ∧ w.heap.size + 1 ≤ wr.heap.size ∧ wr.ownsRow (w.heap.size + 1) 5 1 v ds.length (vs ds)) (fun v i _ => (intOf i + 1).toNat)
    case atStart => exact ⟨(D.length : Int) - 1, [45], by omega, by omega, rfl, by simp; omega, Lib.hid (by rw [show ((D.length : Int) - 1 + 1).toNat = D.length from by omega]; simp), HB0.out, hs0, HO0.out⟩
    case round =>
      obtain ⟨z, ds, hz1', hz2', rfl, hln, hds, hbl, hsz, hown⟩ := hrel
      have hA1 : wr.cell? ⟨w.heap.size, 1, none⟩ = some (.slice (some ⟨b, 0, none⟩) D.length cap) := by rw [hbl.cell (p := ⟨w.heap.size, 1, none⟩) (by simp)]; simp [go_sem]
      have hbw : Below w.heap.size w wr := (below1 w _).trans (hbl.mono (by omega))
      by_cases hz : 0 ≤ z
      · obtain ⟨m, rfl⟩ := Int.eq_ofNat_of_zero_le hz
        have c1 : wr.cell? ⟨b, m, none⟩ = some (.int .u8 (at0 D m)) := by rw [hbw.cell (p := ⟨b, m, none⟩) hb]; exact HC.out m (by omega)
        have k9 := at0_le D H9.out m
        have e1 : (48 : Int) + (at0 D m : Int) = ((48 + at0 D m : Nat) : Int) := by omega
        have E1 := Lib.hid e1; clear e1
        have HOWN := Lib.hid hown; clear hown
        go_wp2_with (at_builtin; refine wpList_append_own _ rfl (.tmp 22) (.tmp 29) 22 rfl (w.heap.size + 1) 5 i0 (.int .u8 0) 1 1 Try.underlying22 hi hz0 hz1 hz2 rfl (by decide) _ ds.length (vs ds) rfl (HOWN.out.alloc _) ⟨wr.heap.size, 0, none⟩ 1 1 [.int .u8 (48 + (at0 D m : Int))] rfl rfl (one_new _ _ _) (by intro u hu; simp at hu; subst hu; rfl) (by unfold maxLen; omega) (by omega) (by simp; omega) ?_)
        intro v' w' hown' hgrow _
        obtain ⟨a', cap', rfl⟩ := own_shape hown'
        rw [E1.out] at hown'
        have h2 : Below (w.heap.size + 1) wr w' := ((below1 wr _).mono (by omega)).grown hgrow (by simp; omega) (fun j hj => (HOWN.out.lt j hj).1)
        have hown2 : w'.ownsRow (w.heap.size + 1) 5 1 (.slice a' (ds.length + 1) cap') (ds ++ [48 + at0 D m]).length (vs (ds ++ [48 + at0 D m])) := by rw [vs_snoc, List.length_append]; exact hown'
        have HO2 := Lib.hid hown2; clear hown2
        have hs2 : w.heap.size + 1 ≤ w'.heap.size := by have := h2.size; omega
        have HB3 := Lib.hid (hbl.trans h2)
        clear hown' hgrow h2 hbl hbw
        go_wp2_with fail
        go_roundw
        case rel =>
          first
            | exact ⟨(m : Int) - 1, ds ++ [48 + at0 D m], by omega, by omega, rfl, by rw [List.length_append, List.length_singleton]; omega, Lib.hid (by
            have e := hds.out
            rw [show ((m : Int) + 1).toNat = m + 1 from by omega] at e
            rw [show ((m : Int) - 1 + 1).toNat = m from by omega, drop_at0 (by omega), e]
            simp), HB3.out, hs2, HO2.out⟩
            | ((repeat apply Exists.intro); exact ⟨⟨(m : Int) - 1, ds ++ [48 + at0 D m], by omega, by omega, rfl, by rw [List.length_append, List.length_singleton]; omega, Lib.hid (by
            have e := hds.out
            rw [show ((m : Int) + 1).toNat = m + 1 from by omega] at e
            rw [show ((m : Int) - 1 + 1).toNat = m from by omega, drop_at0 (by omega), e]
            simp), HB3.out, hs2, HO2.out⟩, rfl⟩)
        case measure => simp [intOf] <;> omega
      · have hz3 : z = -1 := by omega
        subst hz3
        have hd2 : ds = ([45] : List Nat) ++ D.reverse.map (48 + ·) := hds.out
        have hp : 0 < ds.length := by rw [hd2]; simp <;> omega
        have hcv := conv_own hown hp
        have hfin : ds.map (fun d => UInt8.ofNat d) = Lib.itoa x := by rw [HIT.out, hd2]
        rw [hfin] at hcv
        obtain ⟨a', cap', rfl⟩ := own_shape hown
        clear hd2 hp hfin hown
        go_wp2_with fail
        go_ret
        exact ⟨rfl, hbw⟩
  · go_enter Try.func30, Try.ntmps30
    go_wp2_with fail
    go_loopw [3, 4] (fun v i wr => ∃ (z : Int) (ds : List Nat), -1 ≤ z ∧ z < D.length ∧ i = .int .i64 z ∧ ds.length ≤ 1001 - z ∧ Hid (ds = ([] : List Nat) ++ (D.drop (z + 1).toNat).reverse.map (48 + ·)) ∧ Below (w.heap.size + 1) (w.alloc (.cells #[.bool false, .slice (some ⟨b, 0, none⟩) D.length cap] NT)) wr ∧ w.heap.size + 1 ≤ wr.heap.size ∧ wr.ownsRow (w.heap.size + 1) 5 1 v ds.length (vs ds)) (fun v i _ => (intOf i + 1).toNat)
    case atStart => exact ⟨(D.length : Int) - 1, [], by omega, by omega, rfl, by simp; omega, Lib.hid (by rw [show ((D.length : Int) - 1 + 1).toNat = D.length from by omega]; simp), Below.refl _ _, by simp, World.ownsRow_nil _ _ _ _⟩
    case round =>
      obtain ⟨z, ds, hz1', hz2', rfl, hln, hds, hbl, hsz, hown⟩ := hrel
      have hA1 : wr.cell? ⟨w.heap.size, 1, none⟩ = some (.slice (some ⟨b, 0, none⟩) D.length cap) := by rw [hbl.cell (p := ⟨w.heap.size, 1, none⟩) (by simp)]; simp [go_sem]
      have hbw : Below w.heap.size w wr := (below1 w _).trans (hbl.mono (by omega))
      by_cases hz : 0 ≤ z
      · obtain ⟨m, rfl⟩ := Int.eq_ofNat_of_zero_le hz
        have c1 : wr.cell? ⟨b, m, none⟩ = some (.int .u8 (at0 D m)) := by rw [hbw.cell (p := ⟨b, m, none⟩) hb]; exact HC.out m (by omega)
        have k9 := at0_le D H9.out m
        have e1 : (48 : Int) + (at0 D m : Int) = ((48 + at0 D m : Nat) : Int) := by omega
        have E1 := Lib.hid e1; clear e1
        have HOWN := Lib.hid hown; clear hown
        go_wp2_with (at_builtin; refine wpList_append_own _ rfl (.tmp 22) (.tmp 29) 22 rfl (w.heap.size + 1) 5 i0 (.int .u8 0) 1 1 Try.underlying22 hi hz0 hz1 hz2 rfl (by decide) _ ds.length (vs ds) rfl (HOWN.out.alloc _) ⟨wr.heap.size, 0, none⟩ 1 1 [.int .u8 (48 + (at0 D m : Int))] rfl rfl (one_new _ _ _) (by intro u hu; simp at hu; subst hu; rfl) (by unfold maxLen; omega) (by omega) (by simp; omega) ?_)
        intro v' w' hown' hgrow _
        obtain ⟨a', cap', rfl⟩ := own_shape hown'
        rw [E1.out] at hown'
        have h2 : Below (w.heap.size + 1) wr w' := ((below1 wr _).mono (by omega)).grown hgrow (by simp; omega) (fun j hj => (HOWN.out.lt j hj).1)
        have hown2 : w'.ownsRow (w.heap.size + 1) 5 1 (.slice a' (ds.length + 1) cap') (ds ++ [48 + at0 D m]).length (vs (ds ++ [48 + at0 D m])) := by rw [vs_snoc, List.length_append]; exact hown'
        have HO2 := Lib.hid hown2; clear hown2
        have hs2 : w.heap.size + 1 ≤ w'.heap.size := by have := h2.size; omega
        have HB3 := Lib.hid (hbl.trans h2)
        clear hown' hgrow h2 hbl hbw
        go_wp2_with fail
        go_roundw
        case rel =>
          first
            | exact ⟨(m : Int) - 1, ds ++ [48 + at0 D m], by omega, by omega, rfl, by rw [List.length_append, List.length_singleton]; omega, Lib.hid (by
            have e := hds.out
            rw [show ((m : Int) + 1).toNat = m + 1 from by omega] at e
            rw [show ((m : Int) - 1 + 1).toNat = m from by omega, drop_at0 (by omega), e]
            simp), HB3.out, hs2, HO2.out⟩
            | ((repeat apply Exists.intro); exact ⟨⟨(m : Int) - 1, ds ++ [48 + at0 D m], by omega, by omega, rfl, by rw [List.length_append, List.length_singleton]; omega, Lib.hid (by
            have e := hds.out
            rw [show ((m : Int) + 1).toNat = m + 1 from by omega] at e
            rw [show ((m : Int) - 1 + 1).toNat = m from by omega, drop_at0 (by omega), e]
            simp), HB3.out, hs2, HO2.out⟩, rfl⟩)
        case measure => simp [intOf] <;> omega
      · have hz3 : z = -1 := by omega
        subst hz3
        have hd2 : ds = ([] : List Nat) ++ D.reverse.map (48 + ·) := hds.out
        have hp : 0 < ds.length := by rw [hd2]; simp <;> omega
        have hcv := conv_own hown hp
        have hfin : ds.map (fun d => UInt8.ofNat d) = Lib.itoa x := by rw [HIT.out, hd2]
        rw [hfin] at hcv
        obtain ⟨a', cap', rfl⟩ := own_shape hown
        clear hd2 hp hfin hown
        go_wp2_with fail
        go_ret
        exact ⟨rfl, hbw⟩

theorem ref_text (x : Int) (va : Value) (w : World) (hd : Digs w va (dg x.natAbs)) (hx : (dg x.natAbs).length ≤ 1000) :
    Calls Try.prog 30 #[.agg #[.bool (decide (x < 0)), va]] w fun e w' => e = .returned (.string ⟨(Lib.itoa x).toArray⟩) ∧ Below w.heap.size w w' := by
  by_cases h : x = 0
  · subst h; exact text_zero va w hd
  · exact text_some x va w hd hx h
end Go.Proofs.Ytabhfpfnaaihjaa.R1
