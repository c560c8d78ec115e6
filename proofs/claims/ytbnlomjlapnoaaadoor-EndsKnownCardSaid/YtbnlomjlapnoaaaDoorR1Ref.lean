/-
  DERIVED. CONTRACTS of the reference's whole numbers: digit, less, trim, Neg.
-/
import Derived.Test.YtbnlomjlapnoaaaDoorR1Base
import Derived.Test.YtbnlomjlapnoaaaDoorNum
import Derived.WalkSmall
import Derived.Deep.LoopGhost
namespace Go.Proofs.YtbnlomjlapnoaaaDoor.R1
open Go.RowKit

/-- a slice of bytes reads as these digits -/
def Digs (w : World) (v : Value) (ds : List Nat) : Prop :=
  (v = .slice none 0 0 ∧ ds = []) ∨ ∃ b cap, v = .slice (some ⟨b, 0, none⟩) ds.length cap ∧ b < w.heap.size ∧ ds.length ≤ 1000000 ∧ ds.length ≤ cap ∧ cap ≤ maxLen ∧ ∀ i, i < ds.length → w.cell? ⟨b, i, none⟩ = some (.int .u8 (at0 ds i))
theorem Digs.below {w w' : World} {v : Value} {ds : List Nat} (h : Digs w v ds) (hb : Below w.heap.size w w') : Digs w' v ds := by
  rcases h with h | ⟨b, cap, h1, h2, h3, h4, h5, h6⟩
  · exact .inl h
  · exact .inr ⟨b, cap, h1, Nat.lt_of_lt_of_le h2 hb.size, h3, h4, h5, fun i hi => by rw [hb.cell (p := ⟨b, i, none⟩) h2]; exact h6 i hi⟩
theorem Digs.len {w : World} {v : Value} {ds : List Nat} (h : Digs w v ds) : ds.length ≤ 1000000 := by
  rcases h with ⟨_, rfl⟩ | ⟨_, _, _, _, h, _⟩
  · simp
  · exact h

set_option maxHeartbeats 400000 in
theorem digit_any (v : Value) (ds : List Nat) (i : Nat) (w : World) (h : Digs w v ds) (_hi : i ≤ 1000000) (h9 : ∀ d ∈ ds, d ≤ 9) :
    Calls Tryd.prog 66 #[v, .int .i64 i] w fun e w' => e = .returned (.int .i64 (at0 ds i)) ∧ w = w' := by
  rcases h with ⟨rfl, rfl⟩ | ⟨b, cap, rfl, h2, h3, h4, h5, h6⟩
  · go_enter Tryd.func66, Tryd.ntmps66
    go_wp2_with fail
    go_ret
    exact ⟨rfl, rfl⟩
  · have h0 := at0_le ds h9 i
    by_cases hlt : i < ds.length
    · have hc := h6 i hlt
      clear h6
      go_enter Tryd.func66, Tryd.ntmps66
      go_wp2_with fail
      go_ret
      exact ⟨rfl, rfl⟩
    · have hz : at0 ds i = 0 := by unfold at0; rw [List.getD_eq_getElem?_getD, List.getElem?_eq_none (by omega)]; rfl
      have HZ := Lib.hid hz; clear hz h6
      go_enter Tryd.func66, Tryd.ntmps66
      go_wp2_with fail
      go_ret
      exact ⟨ret_int (by rw [HZ.out]; rfl), rfl⟩

def lessB (a b : List Nat) : Bool := decide (vl a < vl b)
theorem Digs.slice {w : World} {v : Value} {ds : List Nat} (h : Digs w v ds) (hn : 0 < ds.length) : ∃ b cap, v = .slice (some ⟨b, 0, none⟩) ds.length cap ∧ b < w.heap.size ∧ ds.length ≤ 1000000 ∧ ds.length ≤ cap ∧ cap ≤ maxLen ∧ ∀ i, i < ds.length → w.cell? ⟨b, i, none⟩ = some (.int .u8 (at0 ds i)) := by
  rcases h with ⟨_, rfl⟩ | h
  · simp at hn
  · exact h
theorem Digs.head {w : World} {v : Value} {ds : List Nat} (h : Digs w v ds) : ∃ a cap, v = .slice a ds.length cap := by
  rcases h with ⟨rfl, rfl⟩ | ⟨b, cap, h, _⟩
  · exact ⟨none, 0, rfl⟩
  · exact ⟨_, cap, h⟩
set_option maxHeartbeats 400000 in
theorem less_short (va vb : Value) (a b : List Nat) (w : World) (ha : Digs w va a) (hb : Digs w vb b) (h : ¬ a.length = b.length) :
    Calls Tryd.prog 67 #[va, vb] w fun e w' => e = .returned (.bool (decide (a.length < b.length))) ∧ Below w.heap.size w w' := by
  have l1 := ha.len
  have l2 := hb.len
  obtain ⟨x, cx, rfl⟩ := ha.head
  obtain ⟨y, cy, rfl⟩ := hb.head
  clear ha hb
  have h1 : ((a.length : Int) != (b.length : Int)) = true := by simp; omega
  clear h
  go_enter Tryd.func67, Tryd.ntmps67
  go_wp2_with fail
  go_ret
  exact ⟨ret_bool (decide_eq_decide.2 (by omega)), Below.refl _ _⟩
set_option maxHeartbeats 400000 in
theorem less_nil (va vb : Value) (w : World) (ha : Digs w va []) (hb : Digs w vb []) :
    Calls Tryd.prog 67 #[va, vb] w fun e w' => e = .returned (.bool false) ∧ Below w.heap.size w w' := by
  obtain ⟨x, cx, rfl⟩ := ha.head
  obtain ⟨y, cy, rfl⟩ := hb.head
  clear ha hb
  go_enter Tryd.func67, Tryd.ntmps67
  go_wp2_with fail
  go_loopw [5] (fun i wr => i = .int .i64 (-1) ∧ wr = w) (fun i _ => 0)
  case atStart => exact ⟨rfl, rfl⟩
  case round =>
    obtain ⟨rfl, rfl⟩ := hrel
    go_wp2_with fail
    go_ret
    exact ⟨rfl, Below.refl _ _⟩
set_option maxHeartbeats 400000 in
theorem less_same (va vb : Value) (a b : List Nat) (w : World) (ha : Digs w va a) (hb : Digs w vb b) (ca : Can a) (cb : Can b) (h : a.length = b.length) (hn : 0 < a.length) :
    Calls Tryd.prog 67 #[va, vb] w fun e w' => e = .returned (.bool (lessB a b)) ∧ Below w.heap.size w w' := by
  obtain ⟨x, cx, rfl, hx, l1, lx, mx, hcx⟩ := ha.slice hn
  obtain ⟨y, cy, rfl, hy, l2, ly, my, hcy⟩ := hb.slice (by omega)
  have HX := Lib.hid hcx; clear hcx
  have HY := Lib.hid hcy; clear hcy
  rw [← h] at ly ⊢
  have H := Lib.hid h; clear h
  have CA := Lib.hid ca; clear ca
  have CB := Lib.hid cb; clear cb
  clear ha hb
  go_enter Tryd.func67, Tryd.ntmps67
  go_wp2_with fail
  go_loopw [5] (fun i wr => ∃ z : Int, -1 ≤ z ∧ z < a.length ∧ i = .int .i64 z ∧ Hid (vl (a.drop (z + 1).toNat) = vl (b.drop (z + 1).toNat)) ∧ Below w.heap.size w wr) (fun i _ => (intOf i + 1).toNat)
  case atStart => exact ⟨(a.length : Int) - 1, by omega, by omega, rfl, Lib.hid (by have := H.out; rw [List.drop_eq_nil_of_le (by omega), List.drop_eq_nil_of_le (by omega)]), Below.refl _ _⟩
  case round =>
    obtain ⟨z, hz, hz2, rfl, hd, hbl⟩ := hrel
    by_cases hp : 0 ≤ z
    · obtain ⟨m, rfl⟩ := Int.eq_ofNat_of_zero_le hp
      have c1 : wr.cell? ⟨x, m, none⟩ = some (.int .u8 (at0 a m)) := by rw [hbl.cell (p := ⟨x, m, none⟩) hx]; exact HX.out m (by omega)
      have c2 : wr.cell? ⟨y, m, none⟩ = some (.int .u8 (at0 b m)) := by rw [hbl.cell (p := ⟨y, m, none⟩) hy]; exact HY.out m (by have := H.out; omega)
      by_cases he : at0 a m = at0 b m
      · have he1 : ((at0 a m : Int) != (at0 b m : Int)) = false := by simp [he]
        have HE := Lib.hid he; clear he
        go_wp2_with fail
        go_quiet (fail)
        go_wp2_with fail
        go_roundw
        case rel => exact ⟨(m : Int) - 1, by omega, by omega, rfl, Lib.hid (by
            have e := hd.out
            rw [show ((m : Int) + 1).toNat = m + 1 from by omega] at e
            rw [show ((m : Int) - 1 + 1).toNat = m from by omega, vl_drop a m, vl_drop b m, e, HE.out]), below_drewN hbl _⟩
        case measure => simp [intOf]
      · have he1 : ((at0 a m : Int) != (at0 b m : Int)) = true := by simp; omega
        have hf : decide (at0 a m < at0 b m) = lessB a b := by
          have e := hd.out
          rw [show ((m : Int) + 1).toNat = m + 1 from by omega] at e
          have hh := H.out
          unfold lessB
          by_cases g : at0 a m < at0 b m
          · rw [decide_eq_true g, decide_eq_true (less_at CA.out hh m (by omega) e g)]
          · have := less_at CB.out hh.symm m (by omega) e.symm (by omega)
            rw [decide_eq_false g, decide_eq_false (by omega)]
        have HF := Lib.hid hf; clear hf he
        go_wp2_with fail
        go_quiet (fail)
        go_wp2_with fail
        go_quiet (fail)
        go_wp2_with fail
        go_ret
        exact ⟨ret_bool HF.out, below_drewN (below_drewN hbl _) _⟩
    · have hz3 : z = -1 := by omega
      subst hz3
      have hf : lessB a b = false := by
        have e := hd.out
        have e2 : vl a = vl b := e
        unfold lessB
        rw [decide_eq_false (by omega)]
      have HF := Lib.hid hf; clear hf
      go_wp2_with fail
      go_ret
      exact ⟨ret_bool HF.out.symm, hbl⟩
theorem less_any (va vb : Value) (a b : List Nat) (w : World) (ha : Digs w va a) (hb : Digs w vb b) (ca : Can a) (cb : Can b) :
    Calls Tryd.prog 67 #[va, vb] w fun e w' => e = .returned (.bool (lessB a b)) ∧ Below w.heap.size w w' := by
  by_cases h : a.length = b.length
  · by_cases hn : 0 < a.length
    · exact less_same va vb a b w ha hb ca cb h hn
    · obtain rfl : a = [] := List.length_eq_zero_iff.1 (by omega)
      obtain rfl : b = [] := List.length_eq_zero_iff.1 (by simpa using h.symm)
      exact less_nil va vb w ha hb
  · have := less_short va vb a b w ha hb h
    have e : lessB a b = decide (a.length < b.length) := by
      unfold lessB
      by_cases g : a.length < b.length
      · rw [decide_eq_true g, decide_eq_true (less_len ca cb g)]
      · have := less_len cb ca (by omega)
        rw [decide_eq_false g, decide_eq_false (by omega)]
    rw [e]; exact this

/-- a whole number is handed back, in a slice of a new block, or of one of the blocks S -/
def SomeNum (x : Int) (w : World) (S : List Nat) (e : Ending) (w' : World) : Prop :=
  (∃ a cap, e = .returned (.agg #[.bool (decide (x < 0)), .slice a (dg x.natAbs).length cap]) ∧ Digs w' (.slice a (dg x.natAbs).length cap) (dg x.natAbs) ∧ ∀ p, a = some p → w.heap.size ≤ p.block ∨ p.block ∈ S) ∧ Below w.heap.size w w'
def nv (neg : Bool) (l : List Nat) : Int := if neg then -(vl l : Int) else vl l

set_option maxHeartbeats 400000 in
theorem trim_nil (neg : Bool) (w : World) :
    Calls Tryd.prog 38 #[.agg #[.bool neg, .slice none 0 0]] w fun e w' => SomeNum 0 w [] e w' := by
  go_enter Tryd.func38, Tryd.ntmps38
  go_wp2_with fail
  go_loopw [3] (fun _ wr => True ∧ wr = (w.alloc (.cells #[.bool neg, .slice none 0 0] 57)).alloc (.cells #[.bool false, .slice none 0 0] 57)) (fun _ _ => 0)
  case atStart => exact ⟨trivial, rfl⟩
  case round =>
    obtain ⟨_, rfl⟩ := hrel
    go_wp2_with fail
    exact bodyPost_ret (v := .agg #[.bool false, .slice none 0 0]) (by simp [results, Tryd.results38, go_sem]) rfl ⟨⟨none, 0, by simp [dg_zero], .inl ⟨by simp [dg_zero], dg_zero⟩, fun _ h => by cases h⟩, below2 _ _ _⟩

abbrev NT : TypeId := 57
def trimW (w : World) (neg : Bool) (b k cap : Nat) : World := (w.alloc (.cells #[.bool neg, .slice (some ⟨b, 0, none⟩) k cap] NT)).alloc (.cells #[.bool false, .slice none 0 0] NT)
theorem at0_snoc {l : List Nat} {m : Nat} (h : m < l.length) : l.take (m + 1) = l.take m ++ [at0 l m] := by
  rw [List.take_succ_eq_append_getElem h]
  unfold at0
  rw [List.getD_eq_getElem?_getD, List.getElem?_eq_getElem h]; rfl
theorem at0_take (l : List Nat) (k i : Nat) (h : i < k) : at0 (l.take k) i = at0 l i := by
  unfold at0
  rw [List.getD_eq_getElem?_getD, List.getD_eq_getElem?_getD, List.getElem?_take_of_lt h]
theorem nv_zero (neg : Bool) (l : List Nat) (h : vl l = 0) : nv neg l = 0 := by unfold nv; rw [h]; cases neg <;> rfl
theorem nv_neg (neg : Bool) (l : List Nat) (h : 0 < vl l) : decide (nv neg l < 0) = neg ∧ (nv neg l).natAbs = vl l := by
  unfold nv
  cases neg
  · exact ⟨decide_eq_false (by simp), by simp⟩
  · exact ⟨decide_eq_true (by simp; omega), by simp⟩
set_option maxHeartbeats 400000 in
theorem trim_some (neg : Bool) (b cap : Nat) (ds : List Nat) (w : World) (hb : b < w.heap.size) (hl : ds.length ≤ 1000000) (hcap : ds.length ≤ cap) (hmax : cap ≤ maxLen) (h9 : ∀ d ∈ ds, d ≤ 9) (hc : ∀ i, i < ds.length → w.cell? ⟨b, i, none⟩ = some (.int .u8 (at0 ds i))) :
    Calls Tryd.prog 38 #[.agg #[.bool neg, .slice (some ⟨b, 0, none⟩) ds.length cap]] w (SomeNum (nv neg ds) w [b]) := by
  unfold maxLen at hmax
  have HC := Lib.hid hc; clear hc
  have H9 := Lib.hid h9; clear h9
  go_enter Tryd.func38, Tryd.ntmps38
  go_wp2_with fail
  go_loopw [3] (fun _ wr => ∃ k, k ≤ ds.length ∧ Hid (vl (ds.take k) = vl ds) ∧ wr = (w.alloc (.cells #[.bool neg, .slice (some ⟨b, 0, none⟩) k cap] NT)).alloc (.cells #[.bool false, .slice none 0 0] NT)) (fun _ wr => match wr.cell? ⟨w.heap.size, 1, none⟩ with | some (.slice _ k _) => k | _ => 0)
  case atStart => exact ⟨ds.length, Nat.le_refl _, Lib.hid (by rw [List.take_length]), rfl⟩
  case round =>
    obtain ⟨k, hk, hv, rfl⟩ := hrel
    cases k with
    | zero =>
      have hz : vl ds = 0 := hv.out.symm
      go_wp2_with fail
      exact bodyPost_ret (v := .agg #[.bool false, .slice (some ⟨b, 0, none⟩) 0 cap]) (by simp [results, Tryd.results38, go_sem]) rfl ⟨(by
        rw [nv_zero neg ds hz]
        exact ⟨some ⟨b, 0, none⟩, cap, by simp [dg_zero], .inr ⟨b, cap, by simp [dg_zero], by simp; omega, by simp [dg_zero], by simp [dg_zero], hmax, fun i hi => by simp [dg_zero] at hi⟩, fun p hp => by cases hp; exact .inr (by simp)⟩), below2 _ _ _⟩
    | succ m =>
      have hc := HC.out m (by omega)
      have c1 : ((w.alloc (.cells #[.bool neg, .slice (some ⟨b, 0, none⟩) (m + 1) cap] NT)).alloc (.cells #[.bool false, .slice none 0 0] NT)).cell? ⟨b, m, none⟩ = some (.int .u8 (at0 ds m)) := by
        rw [(below2 w _ _).cell (p := ⟨b, m, none⟩) hb]; exact hc
      by_cases hd : at0 ds m = 0
      · rw [hd] at c1 hc
        have HD := Lib.hid hd; clear hd
        go_wp2_with fail
        go_roundw
        case rel => exact ⟨m, by omega, Lib.hid (by rw [← hv.out, at0_snoc (by omega), HD.out, vl_zero_snoc]), rfl⟩
        case measure => simp [go_sem]
      · have hd1 : ((at0 ds m : Int) == 0) = false := by simp; omega
        have hcan : dg (vl ds) = ds.take (m + 1) := by
          rw [← hv.out]
          refine dg_vl _ (fun d hd => H9.out d (List.mem_of_mem_take hd)) fun a e => ?_
          rw [at0_snoc (by omega)] at e
          have := List.append_inj_right' e (by simp)
          simp at this
          exact hd this
        have hpos : 0 < vl ds := by
          rcases Nat.eq_zero_or_pos (vl ds) with z | z
          · rw [z, dg_zero] at hcan
            have := congrArg List.length hcan
            simp at this; omega
          · exact z
        have HCAN := Lib.hid hcan; clear hcan
        clear hd
        go_wp2_with fail
        exact bodyPost_ret (v := .agg #[.bool neg, .slice (some ⟨b, 0, none⟩) (m + 1) cap]) (by simp [results, Tryd.results38, go_sem]) rfl ⟨(by
          have hn := nv_neg neg ds hpos
          have hlen : (ds.take (m + 1)).length = m + 1 := by simp; omega
          refine ⟨some ⟨b, 0, none⟩, cap, by rw [hn.1, hn.2, HCAN.out, hlen], ?_, fun p hp => by cases hp; exact .inr (by simp)⟩
          rw [hn.2, HCAN.out]
          refine .inr ⟨b, cap, rfl, by simp; omega, by omega, by omega, by unfold maxLen; omega, fun i hi => ?_⟩
          rw [hlen] at hi
          rw [(below2 w _ _).cell (p := ⟨b, i, none⟩) hb, HC.out i (by omega), at0_take _ _ _ hi]), below2 _ _ _⟩
/-- the blocks of a slice -/
def sb : Value → List Nat
  | .slice (some p) _ _ => [p.block]
  | _ => []
theorem SomeNum.wide {x : Int} {w : World} {S T : List Nat} {e : Ending} {w' : World} (h : SomeNum x w S e w') (hs : ∀ b ∈ S, b ∈ T) : SomeNum x w T e w' := by
  obtain ⟨⟨a, cap, h1, h2, h3⟩, h4⟩ := h
  exact ⟨⟨a, cap, h1, h2, fun p hp => (h3 p hp).imp id (hs _)⟩, h4⟩
/-- trim: whatever digits, the number that they say -/
theorem ref_trim (neg : Bool) (v : Value) (ds : List Nat) (w : World) (h : Digs w v ds) (h9 : ∀ d ∈ ds, d ≤ 9) :
    Calls Tryd.prog 38 #[.agg #[.bool neg, v]] w (SomeNum (nv neg ds) w (sb v)) := by
  rcases h with ⟨rfl, rfl⟩ | ⟨b, cap, rfl, h2, h3, h4, h5, h6⟩
  · rw [nv_zero neg [] rfl]; exact trim_nil neg w
  · exact trim_some neg b cap ds w h2 h3 h4 h5 h9 h6
theorem sb_lt {w : World} {v : Value} {ds : List Nat} (h : Digs w v ds) : ∀ b ∈ sb v, b < w.heap.size := by
  rcases h with ⟨rfl, rfl⟩ | ⟨b, cap, rfl, h2, _⟩
  · intro b hb; simp [sb] at hb
  · intro c hc; simp [sb] at hc; omega
theorem Digs.setCell {w : World} {a : Option Addr} {n cap : Nat} {ds : List Nat} {k o : Nat} {u : Value} (h : Digs w (.slice a n cap) ds) (hk : ∀ p, a = some p → ¬ p.block = k) : Digs (w.setCell ⟨k, o, none⟩ u) (.slice a n cap) ds := by
  rcases h with h | ⟨b, c, h1, h2, h3, h4, h5, h6⟩
  · exact .inl h
  · cases h1
    refine .inr ⟨b, _, rfl, by simpa using h2, h3, h4, h5, fun i hi => ?_⟩
    have hne := hk _ rfl
    rw [World.cell?_setCell_other _ _ _ _ (by intro e; cases e; exact hne rfl)]
    exact h6 i hi
/-- behind the store of a struct into the block of the result -/
theorem SomeNum.stored {x : Int} {w w1 : World} {S : List Nat} {a : Option Addr} {cap k : Nat} {e : Ending} {u0 u1 : Value} (he : e = .returned (.agg #[.bool (decide (x < 0)), .slice a (dg x.natAbs).length cap]))
    (hb : Below w.heap.size w w1) (hk : w.heap.size ≤ k) (hd : Digs w1 (.slice a (dg x.natAbs).length cap) (dg x.natAbs)) (hf : ∀ p, a = some p → k < p.block ∨ p.block ∈ S) (hS : ∀ b ∈ S, b < w.heap.size) :
    SomeNum x w S e ((w1.setCell ⟨k, 0, none⟩ u0).setCell ⟨k, 1, none⟩ u1) := by
  have hne : ∀ p, a = some p → ¬ p.block = k := fun p hp e => by
    rcases hf p hp with h | h
    · omega
    · have := hS _ h; omega
  exact ⟨⟨a, cap, he, (hd.setCell hne).setCell hne, fun p hp => (hf p hp).imp (fun h => by omega) id⟩, (hb.setCell (p := ⟨k, 0, none⟩) hk _).setCell (p := ⟨k, 1, none⟩) hk _⟩
set_option maxHeartbeats 400000 in
theorem neg_any (x : Int) (v : Value) (w : World) (hd : Digs w v (dg x.natAbs)) :
    Calls Tryd.prog 48 #[.agg #[.bool (decide (x < 0)), v]] w (SomeNum (-x) w (sb v)) := by
  obtain ⟨ad, cap, rfl⟩ := hd.head
  have hn : nv (!decide (x < 0)) (dg x.natAbs) = -x := by
    unfold nv
    rw [vl_dg]
    by_cases h : x < 0
    · rw [decide_eq_true h]; simp; omega
    · rw [decide_eq_false h]; simp; omega
  have HN := Lib.hid hn; clear hn
  have HD := Lib.hid hd; clear hd
  go_enter Tryd.func48, Tryd.ntmps48
  go_wp2_with fail
  refine (ref_trim (!decide (x < 0)) _ (dg x.natAbs) _ (HD.out.below (below2 _ _ _)) (dg_le _)).mono ?_
  rw [HN.out]
  rintro e w1 ⟨⟨a1, cap1, rfl, hd1, hf⟩, hb⟩
  have D1 := Lib.hid hd1; clear hd1
  have c0 : w1.cell? ⟨w.heap.size + 1, 0, none⟩ = some (.bool false) := by rw [hb.cell (p := ⟨w.heap.size + 1, 0, none⟩) (by simp)]; simp [go_sem]
  have c1 : w1.cell? ⟨w.heap.size + 1, 1, none⟩ = some (.slice none 0 0) := by rw [hb.cell (p := ⟨w.heap.size + 1, 1, none⟩) (by simp)]; simp [go_sem]
  have f0 : w1.frozen? ⟨w.heap.size + 1, 0, none⟩ = false := by rw [hb.frozen (p := ⟨w.heap.size + 1, 0, none⟩) (by simp)]; simp [go_sem]
  have f1 : w1.frozen? ⟨w.heap.size + 1, 1, none⟩ = false := by rw [hb.frozen (p := ⟨w.heap.size + 1, 1, none⟩) (by simp)]; simp [go_sem]
  have hb0 := (below2 w _ _).trans (hb.mono (by simp; omega))
  clear hb
  go_wp2_with fail
  refine bodyPost_ret (v := .agg #[.bool (decide (-x < 0)), .slice a1 (dg (-x).natAbs).length cap1]) (by simp [results, Tryd.results48, go_sem, c0, c1]) rfl ?_
  exact SomeNum.stored rfl hb0 (by omega) D1.out (fun p hp => (hf p hp).imp (fun h => by simp at h; omega) id) (sb_lt HD.out)
end Go.Proofs.YtbnlomjlapnoaaaDoor.R1
