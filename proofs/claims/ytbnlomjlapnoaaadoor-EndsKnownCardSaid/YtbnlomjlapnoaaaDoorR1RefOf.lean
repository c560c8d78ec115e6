/-
  DERIVED. CONTRACT of the reference's Of: the whole number of an int64.
-/
import Derived.Test.YtbnlomjlapnoaaaDoorR1Ref
import Derived.Test.YtbnlomjlapnoaaaDoorMath
namespace Go.Proofs.YtbnlomjlapnoaaaDoor.R1
open Go.RowKit

theorem info5 : (Tryd.prog.info? 5).map (fun i => (i.zero, i.size, i.bytes)) = some (some (.int .u8 0), 1, 1) := by kernel_rfl
def vs (l : List Nat) : List Value := l.map fun (d : Nat) => Value.int .u8 (d : Int)
theorem vs_snoc (l : List Nat) (d : Nat) : vs (l ++ [d]) = vs l ++ [.int .u8 d] := by simp [vs]
theorem vs_length (l : List Nat) : (vs l).length = l.length := by simp [vs]

theorem vs_at (l : List Nat) (i : Nat) (h : i < l.length) : (vs l)[i]? = some (.int .u8 (at0 l i)) := by
  unfold vs at0
  rw [List.getElem?_map, List.getD_eq_getElem?_getD, List.getElem?_eq_getElem h]; rfl
theorem own_digs {w : World} {base : Nat} {v : Value} {ds : List Nat} (h : w.ownsRow base 5 1 v ds.length (vs ds)) (hl : ds.length ≤ 1000000) :
    ∃ a cap, v = .slice a ds.length cap ∧ Digs w (.slice a ds.length cap) ds ∧ ∀ p, a = some p → base ≤ p.block := by
  have h2 := h
  obtain ⟨_, ⟨rfl, hn⟩ | ⟨g, cap, cur, rfl, hb, hh, hc, hm, _, _⟩⟩ := h
  · have : ds = [] := List.length_eq_zero_iff.1 hn
    subst this
    exact ⟨none, 0, rfl, .inl ⟨rfl, rfl⟩, fun _ e => by cases e⟩
  · refine ⟨_, cap, rfl, .inr ⟨g, cap, rfl, (Array.getElem?_eq_some_iff.1 hh).1, hl, hc, hm, fun i hi => ?_⟩, fun p e => by cases e; exact hb⟩
    rw [h2.cellAt i (by omega)]
    exact vs_at ds i hi
theorem dg_step {y n : Int} {ds : List Nat} (h : ds ++ dg y.natAbs = dg n.natAbs) (hy : ¬ y = 0) : (ds ++ [(y.tmod 10).natAbs]) ++ dg (y.tdiv 10).natAbs = dg n.natAbs := by
  have e1 : (y.tmod 10).natAbs = y.natAbs % 10 := Int.natAbs_tmod y 10
  have e2 : (y.tdiv 10).natAbs = y.natAbs / 10 := Int.natAbs_tdiv y 10
  rw [e1, e2, List.append_assoc, ← h]
  have : ¬ y.natAbs = 0 := by omega
  rw [dg_pos this]; rfl
theorem len_of {y n : Int} {ds : List Nat} (h : ds ++ dg y.natAbs = dg n.natAbs) (h0 : -9223372036854775808 ≤ n) (h1 : n ≤ 9223372036854775807) : ds.length ≤ 19 := by
  have e := congrArg List.length h
  rw [List.length_append] at e
  have := dg_length_le n.natAbs 19 (by omega)
  omega
theorem one_new (w : World) (x : Value) (t : TypeId) : ∀ j u, [x][j]? = some u → (w.alloc (.cells #[x] t)).cell? ((⟨w.heap.size, 0, none⟩ : Addr).add j) = some u := by
  intro j u hj
  match j, hj with
  | 0, hj => simp at hj; subst hj; simp [Addr.add]
  | j + 1, hj => simp at hj
/-- what the loop of Of leaves after some rounds: the number that is left, the digits so far, the number's own block k -/
structure OfRel (n : Int) (k : Nat) (neg : Bool) (w : World) (y : Int) (ds : List Nat) (wr : World) : Prop where
  bound : -9223372036854775808 ≤ y ∧ y ≤ 9223372036854775807
  digits : ds ++ dg y.natAbs = dg n.natAbs
  below : Below (w.heap.size + 1) (w.alloc (.cells #[.bool false, .slice none 0 0] NT)) wr
  size : k < wr.heap.size
  c0 : wr.cell? ⟨k, 0, none⟩ = some (.bool neg)
  f0 : wr.frozen? ⟨k, 0, none⟩ = false
  f1 : wr.frozen? ⟨k, 1, none⟩ = false

theorem grown_set (W : World) (p : Addr) (v : Value) : W.grownBy (W.setCell p v) (some p.block) :=
  ⟨rfl, rfl, rfl, (Below.setCell (Below.refl 0 W) (p := p) (Nat.zero_le _) v).size, fun k _ hk => Below.heap_setCell _ _ _ k (fun e => hk (by rw [e]))⟩
theorem own_shape {w : World} {base : Nat} {e : TypeId} {v : Value} {n : Nat} {xs : List Value} (h : w.ownsRow base e 1 v n xs) : ∃ a cap, v = .slice a n cap := by
  obtain ⟨_, ⟨rfl, rfl⟩ | ⟨g, cap, cur, rfl, _⟩⟩ := h
  · exact ⟨none, 0, rfl⟩
  · exact ⟨_, cap, rfl⟩
/-- one round of the loop: the relation of what it leaves -/
theorem round_of {n : Int} {w wr wa w' : World} {y : Int} {ds : List Nat} {v v' : Value} (hbl : Below (w.heap.size + 1) (w.alloc (.cells #[.bool false, .slice none 0 0] NT)) wr) (hsz : w.heap.size + 1 < wr.heap.size)
    (hc0 : wr.cell? ⟨w.heap.size + 1, 0, none⟩ = some (.bool (decide (n < 0)))) (hf0 : wr.frozen? ⟨w.heap.size + 1, 0, none⟩ = false) (hf1 : wr.frozen? ⟨w.heap.size + 1, 1, none⟩ = false) (hc1 : wr.cell? ⟨w.heap.size + 1, 1, none⟩ = some v)
    (hown : wr.ownsRow (w.heap.size + 2) 5 1 v ds.length (vs ds)) (ha : Below wr.heap.size wr wa) (hg : wa.grownBy w' v.ownBlock) (d : Nat) (hown' : w'.ownsRow (w.heap.size + 2) 5 1 v' (ds.length + 1) (vs ds ++ [.int .u8 d]))
    (hst : ds ++ [d] ++ dg y.natAbs = dg n.natAbs) (hy : -9223372036854775808 ≤ y ∧ y ≤ 9223372036854775807) :
    OfRel n (w.heap.size + 1) (decide (n < 0)) w y (ds ++ [d]) (w'.setCell ⟨w.heap.size + 1, 1, none⟩ v') ∧ (w'.setCell ⟨w.heap.size + 1, 1, none⟩ v').cell? ⟨w.heap.size + 1, 1, none⟩ = some v' ∧ (w'.setCell ⟨w.heap.size + 1, 1, none⟩ v').ownsRow (w.heap.size + 2) 5 1 v' (ds ++ [d]).length (vs (ds ++ [d])) := by
  have h2 : Below (w.heap.size + 2) wr w' := (ha.mono (by omega)).grown hg (by have := ha.size; omega) (fun k hk => (hown.lt k hk).1)
  have k0 : w'.cell? ⟨w.heap.size + 1, 0, none⟩ = some (.bool (decide (n < 0))) := by rw [h2.cell (p := ⟨w.heap.size + 1, 0, none⟩) (by simp)]; exact hc0
  have k1 : w'.cell? ⟨w.heap.size + 1, 1, none⟩ = some v := by rw [h2.cell (p := ⟨w.heap.size + 1, 1, none⟩) (by simp)]; exact hc1
  have g0 : w'.frozen? ⟨w.heap.size + 1, 0, none⟩ = false := by rw [h2.frozen (p := ⟨w.heap.size + 1, 0, none⟩) (by simp)]; exact hf0
  have g1 : w'.frozen? ⟨w.heap.size + 1, 1, none⟩ = false := by rw [h2.frozen (p := ⟨w.heap.size + 1, 1, none⟩) (by simp)]; exact hf1
  refine ⟨⟨hy, hst, (hbl.trans (h2.mono (by omega))).setCell (p := ⟨w.heap.size + 1, 1, none⟩) (by simp) _, ?_, ?_, ?_, ?_⟩, ?_, ?_⟩
  · have := h2.size; simp; omega
  · rw [World.cell?_setCell_other _ _ _ _ (by intro e; cases e)]; exact k0
  · simp [go_sem, g0]
  · simp [go_sem, g1]
  · exact World.cell?_setCell_same _ _ _ k1
  · rw [vs_snoc, List.length_append]
    exact hown'.kept (grown_set _ ⟨w.heap.size + 1, 1, none⟩ _) (by
      have := hown'.lt
      cases e : v'.ownBlock with
      | none => exact .inl rfl
      | some k => exact .inr (fun h => by cases h; have h3 : w.heap.size + 2 ≤ w.heap.size + 1 := (this _ e).1; omega))
set_option maxHeartbeats 1000000 in
theorem of_any (n : Int) (w : World) (h0 : -9223372036854775808 ≤ n) (h1 : n ≤ 9223372036854775807) :
    Calls Tryd.prog 31 #[.int .i64 n] w (SomeNum n w []) := by
  obtain ⟨i0, hi, hz0, hz1, hz2⟩ := info_parts info5
  go_enter Tryd.func31, Tryd.ntmps31
  go_wp2_with fail
  go_loopw [0, 4] (fun a _ wr => ∃ (y : Int) (ds : List Nat) (v : Value), a = .int .i64 y ∧ OfRel n (w.heap.size + 1) (decide (n < 0)) w y ds wr ∧ wr.cell? ⟨w.heap.size + 1, 1, none⟩ = some v ∧ wr.ownsRow (w.heap.size + 2) 5 1 v ds.length (vs ds)) (fun a _ _ => (intOf a).natAbs)
  case atStart => exact ⟨n, [], .slice none 0 0, rfl, ⟨⟨h0, h1⟩, by simp, (Below.refl _ _).alloc (by simp) _, by simp, by simp [go_sem], by simp [go_sem], by simp [go_sem]⟩, by simp [go_sem], World.ownsRow_nil _ _ _ _⟩
  case round =>
    obtain ⟨y, ds, v, rfl, R, hc1, hown⟩ := hrel
    obtain ⟨hbd, hdg, hbl, hsz, hc0, hf0, hf1⟩ := R
    have r0 : wr.cell? ⟨w.heap.size, 0, none⟩ = some (.bool false) := by rw [hbl.cell (p := ⟨w.heap.size, 0, none⟩) (by simp)]; simp [go_sem]
    have r1 : wr.cell? ⟨w.heap.size, 1, none⟩ = some (.slice none 0 0) := by rw [hbl.cell (p := ⟨w.heap.size, 1, none⟩) (by simp)]; simp [go_sem]
    have g0 : wr.frozen? ⟨w.heap.size, 0, none⟩ = false := by rw [hbl.frozen (p := ⟨w.heap.size, 0, none⟩) (by simp)]; simp [go_sem]
    have g1 : wr.frozen? ⟨w.heap.size, 1, none⟩ = false := by rw [hbl.frozen (p := ⟨w.heap.size, 1, none⟩) (by simp)]; simp [go_sem]
    have HDG := Lib.hid hdg; clear hdg
    have HOWN := Lib.hid hown; clear hown
    by_cases hy : y = 0
    · subst hy
      have hds : ds = dg n.natAbs := by have := HDG.out; rw [show (Int.natAbs 0) = 0 from rfl, dg_zero, List.append_nil] at this; exact this
      obtain ⟨a, cap, rfl, hD, hf⟩ := own_digs HOWN.out (by have := len_of HDG.out h0 h1; omega)
      have HD := Lib.hid hD; clear hD
      have HF := Lib.hid hf; clear hf
      have HDS := Lib.hid hds; clear hds HDG HOWN
      go_wp2_with fail
      have hD := HD.out
      have hS := HDS.out
      rw [hS] at hD ⊢
      refine bodyPost_ret (v := .agg #[.bool (decide (n < 0)), .slice a (dg n.natAbs).length cap]) (by simp [results, Tryd.results31, go_sem, r0, r1]) rfl ?_
      exact SomeNum.stored rfl ((below1 w _).trans (hbl.mono (by omega))) (Nat.le_refl _) hD (fun p hp => .inl (by have := HF.out p hp; omega)) (fun _ h => by cases h)
    · have hm := tmod_sign y 10
      have ha := (tmod_abs y 10 (by omega)).1 (by omega)
      have hq := tdiv_bound y 10 hbd.1 hbd.2 (by omega)
      have hst := dg_step HDG.out hy
      have hln := len_of HDG.out h0 h1
      have HST := Lib.hid hst; clear hst
      have hy1 : (y != 0) = true := by simp [hy]
      have hown := HOWN.out
      obtain ⟨q1, q2⟩ := hq
      obtain ⟨b1, b2⟩ := hbd
      obtain ⟨ha1, ha2⟩ := ha
      by_cases hneg : y.tmod 10 < 0
      · have hd9 : (y.tmod 10).natAbs = -(y.tmod 10) := by omega
        have HD9 := Lib.hid hd9; clear hd9 hm hown
        go_wp2_with (at_builtin; refine wpList_append_own _ rfl (.tmp 17) (.tmp 20) 55 rfl (w.heap.size + 2) 5 i0 (.int .u8 0) 1 1 Tryd.underlying55 hi hz0 hz1 hz2 rfl (by decide) v ds.length (vs ds) rfl (HOWN.out.alloc _) ⟨wr.heap.size, 0, none⟩ 1 1 [.int .u8 (-y.tmod 10)] rfl rfl ?c1 ?c2 ?c3 ?c4 ?c5 ?_)
        case c1 => exact one_new _ _ _
        case c2 => intro u hu; simp at hu; subst hu; rfl
        case c3 => unfold maxLen; omega
        case c4 => omega
        case c5 => simp; omega
        intro v' w' hown' hgrow _
        obtain ⟨a', cap', rfl⟩ := own_shape hown'
        rw [← HD9.out] at hown'
        have hr := round_of hbl hsz hc0 hf0 hf1 hc1 HOWN.out (below1 _ _) hgrow _ hown' HST.out ⟨q1, q2⟩
        have HR := Lib.hid hr; clear hr
        have h2 : Below (w.heap.size + 2) wr w' := ((below1 wr _).mono (by omega)).grown hgrow (by simp; omega) (fun k hk => (HOWN.out.lt k hk).1)
        have k1 : w'.cell? ⟨w.heap.size + 1, 1, none⟩ = some v := by rw [h2.cell (p := ⟨w.heap.size + 1, 1, none⟩) (by simp)]; exact hc1
        have kf1 : w'.frozen? ⟨w.heap.size + 1, 1, none⟩ = false := by rw [h2.frozen (p := ⟨w.heap.size + 1, 1, none⟩) (by simp)]; exact hf1
        clear hown' hgrow h2
        go_wp2_with fail
        go_roundw
        case rel => exact ⟨_, _, _, rfl, HR.out⟩
        case measure =>
          have e2 : (y.tdiv 10).natAbs = y.natAbs / 10 := Int.natAbs_tdiv y 10
          show (y.tdiv 10).natAbs < y.natAbs
          omega
      · have hd9 : (y.tmod 10).natAbs = y.tmod 10 := by omega
        have hp9 : 0 ≤ y.tmod 10 := by omega
        have HD9 := Lib.hid hd9; clear hd9 hm hown
        go_wp2_with (at_builtin; refine wpList_append_own _ rfl (.tmp 17) (.tmp 20) 55 rfl (w.heap.size + 2) 5 i0 (.int .u8 0) 1 1 Tryd.underlying55 hi hz0 hz1 hz2 rfl (by decide) v ds.length (vs ds) rfl (HOWN.out.alloc _) ⟨wr.heap.size, 0, none⟩ 1 1 [.int .u8 (y.tmod 10)] rfl rfl ?d1 ?d2 ?d3 ?d4 ?d5 ?_)
        case d2 => rfl
        case d3 => unfold maxLen; omega
        case d4 => omega
        case d5 => omega
        intro v' w' hown' hgrow _
        obtain ⟨a', cap', rfl⟩ := own_shape hown'
        rw [← HD9.out] at hown'
        have hr := round_of hbl hsz hc0 hf0 hf1 hc1 HOWN.out (below1 _ _) hgrow _ hown' HST.out ⟨q1, q2⟩
        have HR := Lib.hid hr; clear hr
        have h2 : Below (w.heap.size + 2) wr w' := ((below1 wr _).mono (by omega)).grown hgrow (by simp; omega) (fun k hk => (HOWN.out.lt k hk).1)
        have k1 : w'.cell? ⟨w.heap.size + 1, 1, none⟩ = some v := by rw [h2.cell (p := ⟨w.heap.size + 1, 1, none⟩) (by simp)]; exact hc1
        have kf1 : w'.frozen? ⟨w.heap.size + 1, 1, none⟩ = false := by rw [h2.frozen (p := ⟨w.heap.size + 1, 1, none⟩) (by simp)]; exact hf1
        clear hown' hgrow h2
        go_wp2_with fail
        go_roundw
        case rel => exact ⟨_, _, _, rfl, HR.out⟩
        case measure =>
          have e2 : (y.tdiv 10).natAbs = y.natAbs / 10 := Int.natAbs_tdiv y 10
          show (y.tdiv 10).natAbs < y.natAbs
          omega
end Go.Proofs.YtbnlomjlapnoaaaDoor.R1
