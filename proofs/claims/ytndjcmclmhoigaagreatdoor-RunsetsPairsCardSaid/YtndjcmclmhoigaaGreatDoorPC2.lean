/-
 DERIVED. A list of runs that grows: a run of it is stored anew. (For the reference of layer 11.)
 DERIVED. CONTRACTS of the library's DeleteFunc over a list of runs that was made; of package runsets (the developers' functions): the sweep's test of a run. Written by mkrsd5.py.
-/
import Derived.Test.YtndjcmclmhoigaaGreatDoorPA7
import Derived.Deep.MidRow
import Derived.Test.YtndjcmclmhoigaaGreatDoorPRsDvC
namespace Go.Proofs.YtndjcmclmhoigaaGreatDoor
open Go.RowKit
set_option maxRecDepth 100000

variable {w W W' u : World} {l : List Rn} {v : Value} {g q cap : Nat} {r : Rn}
theorem set_on (x : Rn) (t : List Value) (i : Nat) (y : Value) : (cellsR x ++ t).set (i + 4) y = cellsR x ++ t.set i y := rfl
theorem vL_set : ∀ {l : List Rn} {q : Nat} {r : Rn}, q < l.length → ((((vL l).set (q * 4) (.int .i8 r.f)).set (q * 4 + 1) (.int .i64 r.d)).set (q * 4 + 2) (.int .i8 r.g)).set (q * 4 + 3) (.int .i64 r.e) = vL (l.set q r)
 | [], q, r, h => absurd h (by simp)
 | x :: t, 0, r, _ => rfl
 | x :: t, q + 1, r, h => by
  have ih := vL_set (l := t) (q := q) (r := r) (by simpa using h)
  show (((((cellsR x ++ vL t).set ((q + 1) * 4) (.int .i8 r.f)).set ((q + 1) * 4 + 1) (.int .i64 r.d)).set ((q + 1) * 4 + 2) (.int .i8 r.g)).set ((q + 1) * 4 + 3) (.int .i64 r.e)) = cellsR x ++ vL (t.set q r)
  rw [show (q + 1) * 4 = q * 4 + 4 by omega, show q * 4 + 4 + 1 = q * 4 + 1 + 4 by omega, show q * 4 + 4 + 2 = q * 4 + 2 + 4 by omega, show q * 4 + 4 + 3 = q * 4 + 3 + 4 by omega, set_on, set_on, set_on, set_on, ih]
theorem cells4_heap {cur : Array Value} {e : TypeId} {o : Nat} {a b c d : Value} (h : W.heap[g]? = some (.cells cur e (0, 0))) :
 (W.setCells g o [a, b, c, d]).heap[g]? = some (.cells ((((cur.setIfInBounds o a).setIfInBounds (o + 1) b).setIfInBounds (o + 1 + 1) c).setIfInBounds (o + 1 + 1 + 1) d) e (0, 0)) :=
 heap_setCell_same _ g _ _ _ d (heap_setCell_same _ g _ _ _ c (heap_setCell_same _ g _ _ _ b (heap_setCell_same W g _ _ _ a h)))
theorem below_cells4 {B o : Nat} {a b c d : Value} (hB : B ≤ g) : Below B W (W.setCells g o [a, b, c, d]) :=
 ((((Below.refl B W).setCell (p := ⟨g, o, none⟩) hB a).setCell (p := ⟨g, o + 1, none⟩) hB b).setCell (p := ⟨g, o + 1 + 1, none⟩) hB c).setCell (p := ⟨g, o + 1 + 1 + 1, none⟩) hB d
/-- the list with a run stored anew -/
theorem Ag.put (h : Ag u l (.slice (some ⟨g, 0, none⟩) l.length cap) W) (hq : q < l.length) : Ag u (l.set q r) (.slice (some ⟨g, 0, none⟩) l.length cap) (W.setCells g (q * 4) [.int .i8 r.f, .int .i64 r.d, .int .i8 r.g, .int .i64 r.e]) := by
 obtain ⟨h1, ⟨e, _⟩ | ⟨g2, cap2, cur, e, hb, hh, hc, hm, hs, ht⟩⟩ := h.own
 ·cases e
 ·injection e with e1 _ e3
  injection e1 with e1
  injection e1 with e1
  subst e1 e3
  refine ⟨h.below.trans (below_cells4 hb), ?_, .inr ⟨g, cap, _, by rw [List.length_set], hb, cells4_heap hh, by rw [List.length_set]; exact hc, hm, by simp [hs], ?_⟩⟩
  ·rw [vL_len]
  ·rw [List.length_set]
   simp only [Array.toList_setIfInBounds, List.take_set, ht]
   exact vL_set hq
theorem Ag.there (h : Ag u l (.slice (some ⟨g, 0, none⟩) l.length cap) W) (hq : q < l.length) : W.there g (q * 4) 4 := by
 obtain ⟨h1, ⟨e, _⟩ | ⟨g2, cap2, cur, e, hb, hh, hc, hm, hs, ht⟩⟩ := h.own
 ·cases e
 ·injection e with e1 _ e3
  injection e1 with e1
  injection e1 with e1
  subst e1 e3
  intro j hj
  have hlt : q * 4 + j < cur.size := by rw [hs]; omega
  refine ⟨?_, frozen_of_row W g _ _ _ hh⟩
  rw [cell_of_row W g _ _ _ _ hh, Array.getElem?_eq_getElem hlt]
  rfl
theorem Ag.at {k cap : Nat} {s : Rn} {n : Nat} (h : Ag u l (.slice (some ⟨g, 0, none⟩) n cap) W) (hs : l[k]? = some s) :
 W.cell? ⟨g, k * 4, none⟩ = some (.int .i8 s.f) ∧ W.cell? ⟨g, k * 4 + 1, none⟩ = some (.int .i64 s.d) ∧ W.cell? ⟨g, k * 4 + 2, none⟩ = some (.int .i8 s.g) ∧ W.cell? ⟨g, k * 4 + 3, none⟩ = some (.int .i64 s.e) := by
 have hk := (List.getElem?_eq_some_iff.1 hs).1
 have e : n = l.length := by
  obtain ⟨_, ⟨e, _⟩ | ⟨g2, cap2, cur, e, _⟩⟩ := h.own
  ·cases e
  ·injection e
 subst e
 have key : ∀ j : Nat, j < 4 → W.cell? ⟨g, k * 4 + j, none⟩ = (cellsR s)[j]? := fun j hj => by
  rw [h.own.cellAt (k * 4 + j) (by omega), vL_at hs hj]
 exact ⟨key 0 (by omega), key 1 (by omega), key 2 (by omega), key 3 (by omega)⟩
/-- l[q] = r, in whatever surroundings -/
theorem wp_store_ag {o : Oper} {act : Act} {K : Act → World → Prop} {Q : Exit → Act → World → Prop} (x y : Operand) (ho : o.op = .store 26 x y) (r : Rn)
 (hG : Ag u l (.slice (some ⟨g, 0, none⟩) l.length cap) W) (hq : q < l.length) (hx : act.eval x = .pointer (some ⟨g, q * 4, none⟩)) (hy : act.eval y = .agg #[.int .i8 r.f, .int .i64 r.d, .int .i8 r.g, .int .i64 r.e])
 (h : ∀ W', Ag u (l.set q r) (.slice (some ⟨g, 0, none⟩) l.length cap) W' → K (act.put o.dst undef) W') : o.wp Tryz.prog act W K Q :=
 wp_store_mid 26 x y ho g (q * 4) #[.int .i8 r.f, .int .i64 r.d, .int .i8 r.g, .int .i64 r.e] hx hy (hG.there hq) (by kernel_rfl) (by simp [Value.oneCell']) (h _ (hG.put hq))
end Go.Proofs.YtndjcmclmhoigaaGreatDoor
namespace Go.Proofs.YtndjcmclmhoigaaGreatDoor
open Go.RowKit
set_option maxRecDepth 100000

variable {w W W' u : World} {a b : Option Addr} {l m cur : List Rn} {p : Rn → Bool} {v : Value} {i j : Nat} {r : Rn}
set_option maxHeartbeats 4000000 in
theorem dBad_is {r : Rn} {v : Bool} (hr : r.In) (hv : decide (¬ chkR r = 0) = v) (w : World) (hL : LaidEn w) :
 Calls Tryz.prog 152 #[.agg #[.int .i8 r.f, .int .i64 r.d, .int .i8 r.g, .int .i64 r.e]] w fun x w' => x = .returned (.bool v) ∧ Below w.heap.size w w' := by
 have HA := Kp.mk (rg_new r 26 (Below.refl w.heap.size w))
 have HB := Kp.mk (bl_of HA.out)
 obtain ⟨c, hc⟩ : ∃ c, chkR r = c := ⟨_, rfl⟩
 have r1 : Kp (∀ u, Below w.heap.size w u → Calls Tryz.prog 15 #[.agg #[.int .i8 r.f, .int .i64 r.d, .int .i8 r.g, .int .i64 r.e]] u fun e w' => e = .returned (.int .i64 c) ∧ Below u.heap.size u w') := Kp.mk (fun u hw => dRChk_is hr hc u (hL.below hw))
 rw [hc] at hv
 clear hr hL hc
 by_cases h : c = 0
 ·subst h
  obtain rfl : false = v := by rw [← hv]; rfl
  clear hv
  go_enter Tryz.func152, Tryz.ntmps152
  go_upto_region 1 with fail
  generalize (w.alloc (.cells #[.int .i8 r.f, .int .i64 r.d, .int .i8 r.g, .int .i64 r.e] 26)) = w0 at *
  have kHA0 := HA.out.c0
  have kHA1 := HA.out.c1
  have kHA2 := HA.out.c2
  have kHA3 := HA.out.c3
  go_wp2_with fail
  refine (r1.out _ HB.out.below).mono ?_
  rintro e u1 ⟨rfl, hbl⟩
  clear kHA0 kHA1 kHA2 kHA3
  have HB := Kp.mk (HB.out.step hbl)
  have HA := Kp.mk (HA.out.step hbl)
  clear hbl
  have kHA0 := HA.out.c0
  have kHA1 := HA.out.c1
  have kHA2 := HA.out.c2
  have kHA3 := HA.out.c3
  go_wp2_with fail
  go_ret
  exact ⟨rfl, HB.out.below⟩
 ·have t : (c != 0) = true := by rw [bne_iff_ne]; exact h
  obtain rfl : true = v := by rw [← hv]; exact (decide_eq_true h).symm
  clear hv h
  go_enter Tryz.func152, Tryz.ntmps152
  go_upto_region 1 with fail
  generalize (w.alloc (.cells #[.int .i8 r.f, .int .i64 r.d, .int .i8 r.g, .int .i64 r.e] 26)) = w0 at *
  have kHA0 := HA.out.c0
  have kHA1 := HA.out.c1
  have kHA2 := HA.out.c2
  have kHA3 := HA.out.c3
  go_wp2_with fail
  refine (r1.out _ HB.out.below).mono ?_
  rintro e u1 ⟨rfl, hbl⟩
  clear kHA0 kHA1 kHA2 kHA3
  have HB := Kp.mk (HB.out.step hbl)
  have HA := Kp.mk (HA.out.step hbl)
  clear hbl
  have kHA0 := HA.out.c0
  have kHA1 := HA.out.c1
  have kHA2 := HA.out.c2
  have kHA3 := HA.out.c3
  go_wp2_with fail
  go_ret
  exact ⟨rfl, HB.out.below⟩
theorem wpList_store_ag {ops : Array Oper} {rest : List Oper} {o : Oper} {act : Act} {Q : Exit → Act → World → Prop} {g q cap : Nat} (hgd : o.guard = none) (x y : Operand) (ho : o.op = .store 26 x y) (r : Rn)
 (hG : Ag u l (.slice (some ⟨g, 0, none⟩) l.length cap) W) (hq : q < l.length) (hx : act.eval x = .pointer (some ⟨g, q * 4, none⟩)) (hy : act.eval y = .agg #[.int .i8 r.f, .int .i64 r.d, .int .i8 r.g, .int .i64 r.e])
 (h : ∀ W', Ag u (l.set q r) (.slice (some ⟨g, 0, none⟩) l.length cap) W' → wpList Tryz.prog ops Q rest (act.put o.dst undef) W') : wpList Tryz.prog ops Q (o :: rest) act W :=
 wpList_plain hgd fun _ hK => wp_store_ag x y ho r hG hq hx hy fun W' h2 => hK _ _ (h W' h2)
/-- how far those that a test holds of have been taken out -/
structure Del (l : List Rn) (p : Rn → Bool) (cur : List Rn) (i j : Nat) : Prop where
 len : cur.length = l.length
 pre : cur.take i = (l.take j).filter fun r => !p r
 post : cur.drop j = l.drop j
theorem take_snoc {j : Nat} {r : Rn} (hr : l[j]? = some r) : l.take (j + 1) = l.take j ++ [r] := by rw [List.take_add_one, hr]; rfl
theorem Del.start {k : Nat} (hr : l[k]? = some r) (hp : p r = true) (hf : ∀ (j : Nat) (s : Rn), j < k → l[j]? = some s → p s = false) : Del l p l k (k + 1) := by
 refine ⟨rfl, ?_, rfl⟩
 rw [take_snoc hr, List.filter_append]
 have e1 : (l.take k).filter (fun r => !p r) = l.take k := List.filter_eq_self.2 fun x hx => by
  obtain ⟨j, hj, e⟩ := List.getElem_of_mem hx
  rw [List.length_take] at hj
  have h2 : l[j]? = some x := by
   rw [List.getElem_take] at e
   rw [List.getElem?_eq_getElem (by omega), e]
  rw [hf j x (by omega) h2]; rfl
 have e2 : [r].filter (fun r => !p r) = [] := by simp [hp]
 rw [e1, e2, List.append_nil]
theorem Del.at (h : Del l p cur i j) (hr : l[j]? = some r) : cur[j]? = some r := by
 have e := congrArg (fun (t : List Rn) => t[0]?) h.post
 simpa [List.getElem?_drop, hr] using e
theorem drop_more (h : cur.drop j = l.drop j) : cur.drop (j + 1) = l.drop (j + 1) := by
 have := congrArg (List.drop 1) h
 simpa [List.drop_drop, Nat.add_comm] using this
theorem Del.skip (h : Del l p cur i j) (hr : l[j]? = some r) (hp : p r = true) : Del l p cur i (j + 1) :=
 ⟨h.len, by rw [take_snoc hr, List.filter_append, h.pre]; simp [hp], drop_more h.post⟩
theorem Del.put (h : Del l p cur i j) (hij : i < j) (hr : l[j]? = some r) (hp : p r = false) : Del l p (cur.set i r) (i + 1) (j + 1) := by
 have hj := (List.getElem?_eq_some_iff.1 hr).1
 have hl := h.len
 refine ⟨by rw [List.length_set, h.len], ?_, ?_⟩
 ·rw [take_snoc (l := cur.set i r) (r := r) (by rw [List.getElem?_set_self (by omega)]), List.take_set_of_le (Nat.le_refl _), h.pre, take_snoc hr, List.filter_append]
  simp [hp]
 ·rw [List.drop_set_of_lt (by omega)]
  exact drop_more h.post
theorem Del.done (h : Del l p cur i l.length) : cur.take i = l.filter fun r => !p r := by rw [h.pre, List.take_length]
theorem zcells_len (n : Nat) : (Builtin.zeroCells #[.int .i8 0, .int .i64 0, .int .i8 0, .int .i64 0] n).toList.length = n * 4 := by simp [Builtin.zeroCells]
theorem zcells_one (n : Nat) : ∀ v ∈ (Builtin.zeroCells #[.int .i8 0, .int .i64 0, .int .i8 0, .int .i64 0] n).toList, v.oneCell' = true := by
 intro v hv
 unfold Builtin.zeroCells at hv
 simp at hv
 obtain ⟨k, _, rfl⟩ := hv
 have h4 : k % 4 < 4 := Nat.mod_lt _ (by decide)
 rcases (show k % 4 = 0 ∨ k % 4 = 1 ∨ k % 4 = 2 ∨ k % 4 = 3 by omega) with e | e | e | e <;> rw [e] <;> rfl
/-- clear(l), l a list of runs that is not empty -/
theorem run_clear_rn (W : World) (ty : TypeId) {g o n c : Nat} (hn : 0 < n) (ht : W.there g o (n * 4)) :
 (Builtin.clear_ #[60] ty #[.slice (some ⟨g, o, none⟩) n c]).run Tryz.prog W = .ok (.tuple #[]) (W.setCells g o (Builtin.zeroCells #[.int .i8 0, .int .i64 0, .int .i8 0, .int .i64 0] n).toList) := by
 have hu : Tryz.prog.underlying 60 = some (.slice 26) := Tryz.underlying60
 have hst := run_storeCells_cells (P := Tryz.prog) g o (Builtin.zeroCells #[.int .i8 0, .int .i64 0, .int .i8 0, .int .i64 0] n).toList 0 W (by rw [zcells_len]; intro k hk; simpa using (ht k hk).1) (by rw [zcells_len]; intro k hk; simpa using (ht k hk).2) (zcells_one n)
 simp only [Nat.add_zero] at hst
 obtain ⟨k, rfl⟩ : ∃ k, n = k + 1 := ⟨n - 1, by omega⟩
 simp [Builtin.clear_, run_underlying hu, Value.cells, hst]
/-- l[i:] of a list at the beginning of its block -/
theorem run_from {g n c i : Nat} (h1 : i < n) (h2 : n ≤ c) (W : World) : (Instr.slice 60 (.slice (some ⟨g, 0, none⟩) n c) (some (.int .i64 (i : Int))) none none).run Tryz.prog W = .ok (.slice (some ⟨g, i * 4, none⟩) (n - i) (c - i)) W := by
 rw [run_slice_l (P := Tryz.prog) W 60 (some ⟨g, 0, none⟩) n c elemRn .i64 (i : Int) (by omega) (by omega), sizeRn]
 show Result.ok (sliced (some ⟨g, 0, none⟩) (i : Int).toNat n c 4) W = _
 unfold sliced
 rw [Int.toNat_natCast, if_neg (by omega)]
 show Result.ok (Value.slice (some ((⟨g, 0, none⟩ : Addr).add (i * 4))) (n - i) (c - i)) W = _
 rw [Addr.add_mid, Nat.zero_add]
theorem run_upto {g n c i : Nat} (h1 : i ≤ n) (h2 : n ≤ c) (W : World) : (Instr.slice 60 (.slice (some ⟨g, 0, none⟩) n c) none (some (.int .i64 (i : Int))) none).run Tryz.prog W = .ok (.slice (some ⟨g, 0, none⟩) i c) W := by
 rw [run_slice_h (P := Tryz.prog) W 60 (some ⟨g, 0, none⟩) n c elemRn .i64 (i : Int) (by omega) (by omega), sizeRn]
 show Result.ok (sliced (some ⟨g, 0, none⟩) 0 (i : Int).toNat c 4) W = _
 unfold sliced
 rw [Int.toNat_natCast]
 have e : (if c = 0 then some (⟨g, 0, none⟩ : Addr) else (some (⟨g, 0, none⟩ : Addr)).map (·.add (0 * 4))) = some ⟨g, 0, none⟩ := by
  split
  ·rfl
  ·show some ((⟨g, 0, none⟩ : Addr).add (0 * 4)) = _
   rw [Addr.add_mid]
 rw [e]
 rfl
/-- the room of a list that was made -/
theorem Ag.room {c : Nat} {a : Option Addr} (h : Ag u l (.slice a l.length c) W) : l.length ≤ c ∧ c ≤ maxLen := by
 obtain ⟨_, ⟨e2, hn⟩ | ⟨g, cap, cur, e2, _, _, hc, hm, _⟩⟩ := h.own
 ·injection e2 with _ _ e3
  rw [e3]; unfold maxLen; omega
 ·injection e2 with _ _ e3
  rw [e3]; exact ⟨hc, hm⟩
theorem Ag.zero {c : Nat} {a : Option Addr} (h : Ag u l (.slice a l.length c) W) (hl : l ≠ []) : ∃ g, a = some ⟨g, 0, none⟩ := by
 obtain ⟨_, ⟨e2, hn⟩ | ⟨g, cap, cur, e2, _⟩⟩ := h.own
 ·exact absurd (List.length_eq_zero_iff.1 hn) hl
 ·injection e2 with e3 _ _
  exact ⟨g, e3⟩
theorem Ag.here {g n c i k : Nat} (h : Ag u l (.slice (some ⟨g, 0, none⟩) n c) W) (hk : i + k ≤ l.length) : W.there g (i * 4) (k * 4) := by
 obtain ⟨h1, ⟨e, _⟩ | ⟨g2, cap2, cur, e, hb, hh, hc, hm, hs, ht⟩⟩ := h.own
 ·cases e
 ·injection e with e1 _ e3
  injection e1 with e1
  injection e1 with e1
  subst e1 e3
  intro j hj
  have hlt : i * 4 + j < cur.size := by rw [hs]; omega
  refine ⟨?_, frozen_of_row W g _ _ _ hh⟩
  rw [cell_of_row W g _ _ _ _ hh, Array.getElem?_eq_getElem hlt]
  rfl
theorem below_cellsN {B g : Nat} (hB : B ≤ g) : ∀ (vs : List Value) (o : Nat) (w : World), Below B w (w.setCells g o vs)
 | [], _, w => Below.refl B w
 | v :: r, o, w => ((Below.refl B w).setCell (p := ⟨g, o, none⟩) hB v).trans (below_cellsN hB r (o + 1) _)
/-- the first runs, behind a store of what lies behind them -/
theorem Ag.keep {g n c i : Nat} (h : Ag u l (.slice (some ⟨g, 0, none⟩) n c) W) (vs : List Value) : Lr u (some ⟨g, 0, none⟩) (l.take i) (W.setCells g (i * 4) vs) := by
 have hB : u.heap.size ≤ g ∧ g < W.heap.size := by
  obtain ⟨h1, ⟨e, _⟩ | ⟨g2, cap2, cur, e, hb, hh, hc, hm, hs, ht⟩⟩ := h.own
  ·cases e
  ·injection e with e1 _ e3
   injection e1 with e1
   injection e1 with e1
   subst e1
   exact ⟨hb, (Array.getElem?_eq_some_iff.1 hh).1⟩
 have hb := below_cellsN hB.1 vs (i * 4) W
 refine ⟨h.below.trans hb, fun p r hp => ⟨g, 0, rfl, Nat.lt_of_lt_of_le hB.2 hb.size, ?_⟩⟩
 have hpl := (List.getElem?_eq_some_iff.1 hp).1
 rw [List.length_take] at hpl
 have hr : l[p]? = some r := by
  rw [List.getElem?_take, if_pos (by omega)] at hp
  exact hp
 obtain ⟨k0, k1, k2, k3⟩ := h.at hr
 have key : ∀ j : Nat, j < 4 → (W.setCells g (i * 4) vs).cell? ⟨g, p * 4 + j, none⟩ = W.cell? ⟨g, p * 4 + j, none⟩ := fun j hj =>
  World.cell?_setCells_out g vs (i * 4) W ⟨g, p * 4 + j, none⟩ (fun _ _ => .inl (by show p * 4 + j < i * 4; omega))
 rw [Nat.zero_add]
 exact ⟨(key 0 (by omega)).trans k0, (key 1 (by omega)).trans k1, (key 2 (by omega)).trans k2, (key 3 (by omega)).trans k3⟩
set_option maxHeartbeats 8000000 in
theorem dDel_is {fk : Nat} {cb : Array Value} (hp : Pred u l p fk cb) (hn : l.length ≤ 1000000000) (hG : Ag u l v W) :
 Calls Tryz.prog 151 #[v, .func (.func fk) #[] cb] W fun x w' => (∃ b c, x = .returned (.slice b (l.filter fun r => !p r).length c) ∧ (l.filter fun r => !p r).length ≤ c ∧ c ≤ maxLen ∧ Lr u b (l.filter fun r => !p r) w') ∧ Below u.heap.size u w' := by
 obtain ⟨a, c, rfl, hl, _⟩ := hG.row (Below.refl _ _)
 have hroom := hG.room
 have HP := Kp.mk hp
 have eg := hp.eg
 have hpW : Pred W l p fk cb := ⟨eg, fun r hr v hv => hp.call r hr v (hG.below.trans (hv.mono hG.below.size))⟩
 have r1 := Kp.mk (idx_is (c := c) hpW (by unfold maxLen; omega) hl.now)
 have HG := Kp.mk hG
 have HL := Kp.mk hl
 obtain ⟨n, hnn⟩ : ∃ n, l.length = n := ⟨_, rfl⟩
 have HN := Kp.mk hnn
 have HR := Kp.mk hroom
 rw [hnn] at r1 hn ⊢
 clear hp hG hl hpW hroom hnn
 go_enter Tryz.func151, Tryz.ntmps151
 go_wp2_with fail
 refine r1.out.mono ?_
 rintro e v1 ⟨⟨z, hz, rfl⟩, hb⟩
 have HG := Kp.mk (HG.out.step hb)
 have HL := Kp.mk (HL.out.step hb)
 clear hb r1
 rcases hz with ⟨rfl, hall⟩ | ⟨k, r0, rfl, hk, hpk, hlt⟩
 ·have e : (l.filter fun r => !p r) = l := List.filter_eq_self.2 fun x hx => by rw [hall x hx]; rfl
  have HE := Kp.mk e
  clear e hall
  go_wp2_with fail
  go_ret
  rw [HE.out, ← HN.out]
  exact ⟨⟨a, c, rfl, HR.out.1, HR.out.2, HL.out⟩, HL.out.below⟩
 ·have hkl := (List.getElem?_eq_some_iff.1 hk).1
  have HD := Kp.mk (Del.start hk hpk hlt)
  obtain ⟨g, rfl⟩ := HG.out.zero (by rintro rfl; simp at hkl)
  have HG : Kp (Ag u l (.slice (some ⟨g, 0, none⟩) n c) v1) := Kp.mk (by have := HG.out; rw [HN.out] at this; exact this)
  have t0 : ((k : Int) == -1) = false := by rw [beq_eq_false_iff_ne]; omega
  have hkn : k < n := by rw [← HN.out]; exact hkl
  have wk : IntKind.i64.wrap ((k : Int) + 1) = (k : Int) + 1 := IntWalk.i64_in _ (by omega)
  clear hk hpk hlt hkl HL
  go_wp2_with fail
  go_loopw [5, 6] (fun vi vj wr => ∃ (i j : Nat) (cur : List Rn), vi = .int .i64 (i : Int) ∧ vj = .int .i64 (j : Int) ∧ i < j ∧ j ≤ n ∧ Kp (Del l p cur i j) ∧ Kp (Ag u cur (.slice (some ⟨g, 0, none⟩) n c) wr)) (fun _ vj _ => n - (intOf vj).toNat)
  case atStart => exact ⟨k, k + 1, l, rfl, by go_num, by omega, by omega, HD, HG⟩
  case round =>
   clear HD HG t0 wk
   obtain ⟨i, j, cur, rfl, rfl, hij, hj, HD, HG⟩ := hrel
   have wj : IntKind.i64.wrap ((j : Int) + 1) = (j : Int) + 1 := IntWalk.i64_in _ (by omega)
   have wi : IntKind.i64.wrap ((i : Int) + 1) = (i : Int) + 1 := IntWalk.i64_in _ (by omega)
   by_cases h1 : j < n
   ·have d1 : decide ((j : Int) < (n : Int)) = true := decide_eq_true (by omega)
    have d2 : (j : Int) < (n : Int) := by omega
    have d3 : (i : Int) < (n : Int) := by omega
    obtain ⟨r, hr⟩ : ∃ r, l[j]? = some r := ⟨l[j]'(by rw [HN.out]; exact h1), List.getElem?_eq_getElem _⟩
    have hcur := HD.out.at hr
    have rc := Kp.mk (HP.out.call r (List.mem_of_getElem? hr))
    have H1 := Kp.mk hr
    have hlen := HD.out.len
    obtain ⟨k0, k1, k2, k3⟩ := HG.out.at hcur
    have HJ : Kp (i < cur.length) := Kp.mk (by rw [hlen, HN.out]; omega)
    have HQ : Kp (cur.length = n) := Kp.mk (by rw [hlen, HN.out])
    clear hr hcur hlen
    go_upto_region 8 with fail
    clear k0 k1 k2 k3
    have hbl := (Below.refl wr.heap.size wr).alloc (Nat.le_refl _) (.cells #[.int .i8 r.f, .int .i64 r.d, .int .i8 r.g, .int .i64 r.e] 26)
    have HV := Kp.mk (ro_of (r := r) HG.out.below)
    have HG := Kp.mk (HG.out.step hbl)
    clear hbl
    generalize wr.alloc (.cells #[.int .i8 r.f, .int .i64 r.d, .int .i8 r.g, .int .i64 r.e] 26) = u0 at *
    generalize wr.heap.size = gr at *
    obtain ⟨k0, k1, k2, k3⟩ := HV.out.cs
    cases hb : p r with
    | true =>
     rw [hb] at rc
     have HD := Kp.mk (HD.out.skip H1.out hb)
     clear hb
     go_wp2_with (go_at_fn fk; refine (rc.out _ HG.out.below).mono ?_; rintro e v2 ⟨rfl, hbl⟩; have HG := Kp.mk (HG.out.step hbl); clear hbl k0 k1 k2 k3)
     go_roundw
     case rel => exact ⟨i, j + 1, cur, rfl, by go_num, by omega, by omega, HD, HG⟩
     case measure => simp [intOf]; omega
    | false =>
     rw [hb] at rc
     have HD := Kp.mk (HD.out.put hij H1.out hb)
     clear hb
     go_wp2_with (first
      | (go_at_fn fk; refine (rc.out _ HG.out.below).mono ?_; rintro e v2 ⟨rfl, hbl⟩; have HG := Kp.mk (HG.out.step hbl); have HV := Kp.mk (HV.out.step hbl); clear hbl k0 k1 k2 k3; obtain ⟨k0, k1, k2, k3⟩ := HV.out.cs)
      | (refine wpList_store_ag rfl (.tmp 33) (.tmp 32) rfl r (by have h := HG.out; rw [← HQ.out] at h; exact h) HJ.out rfl rfl ?_; intro vw hgn; have HG : Kp (Ag u (cur.set i r) (.slice (some ⟨g, 0, none⟩) n c) vw) := Kp.mk (by rw [← HQ.out]; exact hgn); clear hgn k0 k1 k2 k3))
     go_roundw
     case rel => exact ⟨i + 1, j + 1, cur.set i r, by go_num, by go_num, by omega, by omega, HD, HG⟩
     case measure => simp [intOf]; omega
   ·obtain rfl : j = n := by omega
    have d1 : decide ((j : Int) < (j : Int)) = false := decide_eq_false (by omega)
    have HE := Kp.mk (HD.out)
    have e := HN.out
    have hdone : cur.take i = l.filter fun r => !p r := by
     have h := HD.out
     rw [← HN.out] at h
     exact h.done
    have hcl : i + (j - i) ≤ cur.length := by rw [HD.out.len, HN.out]; omega
    have rs1 := fun W => run_from (g := g) (n := j) (c := c) hij (by rw [← HN.out]; exact HR.out.1) W
    have rs2 := fun W => run_upto (g := g) (n := j) (c := c) (i := i) (by omega) (by rw [← HN.out]; exact HR.out.1) W
    have rcl := fun ty => run_clear_rn wr ty (c := c - i) (by omega : 0 < j - i) (HG.out.here hcl)
    have HK := Kp.mk (HG.out.keep (i := i) (Builtin.zeroCells #[.int .i8 0, .int .i64 0, .int .i8 0, .int .i64 0] (j - i)).toList)
    have HLen : Kp ((l.filter fun r => !p r).length = i) := Kp.mk (by rw [← hdone, List.length_take]; have := HD.out.len; have := HN.out; omega)
    have HDn := Kp.mk hdone
    generalize (Builtin.zeroCells #[.int .i8 0, .int .i64 0, .int .i8 0, .int .i64 0] (j - i)).toList = zs at *
    clear hdone hcl e HE
    go_wp2_with fail
    go_ret
    rw [HLen.out, ← HDn.out]
    exact ⟨⟨_, c, rfl, by have := HR.out.1; have := HN.out; omega, HR.out.2, HK.out⟩, HK.out.below⟩
end Go.Proofs.YtndjcmclmhoigaaGreatDoor
