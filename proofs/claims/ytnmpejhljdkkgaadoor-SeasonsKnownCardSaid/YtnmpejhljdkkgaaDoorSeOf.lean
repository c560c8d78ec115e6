/-
  DERIVED. WALK of the law SeasonsOf, given the contracts of package seasons. Written by mkse3.py.
-/
import Derived.Test.YtnmpejhljdkkgaaDoorSeCore
import Derived.OwnWalk
import Derived.Carry
namespace Go.Proofs.YtnmpejhljdkkgaaDoor
open Go.RowKit
set_option maxRecDepth 100000

def codes21 : List Int := [21, 22, 23, 24, 25, 26, 27, 28, 29, 30, 31, 32, 33, 34, 35, 36, 37, 38, 39, 40, 41]
def preL (y d : Int) (n : Nat) : List Int := (codes21.take n).filter fun c => ofB y c d
theorem codes21_at : ∀ n : Fin 21, codes21[n.1]? = some (21 + ((n.1 : Nat) : Int)) := by decide
theorem preL_succ {y d : Int} {n : Nat} {b : Bool} (h : n < 21) (hb : ofB y (21 + (n : Int)) d = b) : preL y d (n + 1) = preL y d n ++ (if b then [21 + (n : Int)] else []) := by
  have e := codes21_at ⟨n, h⟩
  unfold preL
  rw [List.take_add_one, e, List.filter_append]
  simp only [Option.toList_some]
  congr 1
  cases b <;> simp [List.filter, hb]
theorem preL_all (y d : Int) : preL y d 21 = codesL y d := rfl
theorem preL_len (y d : Int) (n : Nat) : (preL y d n).length ≤ 21 := by
  unfold preL
  have h1 := List.length_filter_le (fun c => ofB y c d) (codes21.take n)
  have h2 := (List.take_sublist n codes21).length_le
  have h3 : codes21.length = 21 := rfl
  omega
def vI (l : List Int) : List Value := l.map fun x => Value.int .i64 x
theorem vI_snoc (l : List Int) (x : Int) : vI (l ++ [x]) = vI l ++ [.int .i64 x] := by simp [vI]
theorem own_below {w w' : World} {base : Nat} {e : TypeId} {size : Nat} {v : Value} {n : Nat} {xs : List Value} (h : w.ownsRow base e size v n xs) (hb : Below w.heap.size w w') : w'.ownsRow base e size v n xs :=
  h.kept (row := none) ⟨hb.os, hb.tape, hb.output, hb.size, fun k hk _ => hb.block k hk⟩ (by cases v.ownBlock <;> simp)
theorem own_sl {w : World} {base : Nat} {e : TypeId} {v : Value} {L : List Int} (h : w.ownsRow base e 1 v L.length (vI L)) (hl : L.length ≤ 1000) : ∃ k, SlI w v L k := by
  have h2 := h
  obtain ⟨_, ⟨rfl, hn⟩ | ⟨g, cap, cur, rfl, hb, hh, hc, hm, _, _⟩⟩ := h
  · exact ⟨0, .inl ⟨List.length_eq_zero_iff.1 hn, none, rfl⟩⟩
  · refine ⟨cap, .inr ⟨g, 0, rfl, (Array.getElem?_eq_some_iff.1 hh).1, hl, fun j hj => ?_⟩⟩
    rw [Nat.zero_add, h2.cellAt j (by omega)]
    unfold vI
    rw [List.getElem?_map, List.getD_eq_getElem?_getD, List.getElem?_eq_getElem hj]; rfl
theorem own_form {w : World} {base : Nat} {e : TypeId} {v : Value} {n : Nat} {xs : List Value} (h : w.ownsRow base e 1 v n xs) : ∃ a cap, v = .slice a n cap := by
  obtain ⟨_, ⟨rfl, rfl⟩ | ⟨g, cap, cur, rfl, _⟩⟩ := h
  · exact ⟨none, 0, rfl⟩
  · exact ⟨_, cap, rfl⟩
theorem one_row (w : World) (x : Value) (t : TypeId) : ∀ j u, [x][j]? = some u → (w.alloc (.cells #[x] t)).cell? ((⟨w.heap.size, 0, none⟩ : Addr).add j) = some u := by
  intro j u hj
  match j, hj with
  | 0, hj => simp at hj; subst hj; simp [Addr.add]
  | j + 1, hj => simp at hj
theorem infoI : ∃ i, Tryd.prog.info? 3 = some i ∧ i.zero = some (.int .i64 0) ∧ i.size = 1 ∧ i.bytes = 8 := by
  have h : (Tryd.prog.info? 3).map (fun i => (i.zero, i.size, i.bytes)) = some (some (.int .i64 0), 1, 8) := by kernel_rfl
  cases hq : Tryd.prog.info? 3 with
  | none => rw [hq] at h; cases h
  | some i =>
    rw [hq] at h
    simp at h
    exact ⟨i, rfl, h.1, h.2.1, h.2.2⟩
/-- what the loop of the statement leaves: the codes so far in a row of its own -/
structure CodesRel (u : World) (y d : Int) (n : Nat) (v : Value) (wr : World) : Prop where
  below : Below u.heap.size u wr
  own : wr.ownsRow u.heap.size 3 1 v (preL y d n).length (vI (preL y d n))
theorem CodesRel.step {u : World} {y d : Int} {n : Nat} {v : Value} {wr w' : World} (h : CodesRel u y d n v wr) (hb : Below wr.heap.size wr w') : CodesRel u y d n v w' :=
  ⟨h.below.trans (hb.mono h.below.size), own_below h.own hb⟩
theorem CodesRel.skip {u : World} {y d : Int} {n : Nat} {v : Value} {wr : World} (h : CodesRel u y d n v wr) (hn : n < 21) (hb : ofB y (21 + (n : Int)) d = false) : CodesRel u y d (n + 1) v wr := by
  have e := preL_succ hn hb
  simp at e
  exact ⟨h.below, by rw [e]; exact h.own⟩
theorem CodesRel.add {u : World} {y d : Int} {n : Nat} {v v' : Value} {wr w' : World} (h : CodesRel u y d n v wr) (hn : n < 21) (hb : ofB y (21 + (n : Int)) d = true) (o : Obj)
    (ho : w'.ownsRow u.heap.size 3 1 v' ((preL y d n).length + 1) (vI (preL y d n) ++ [.int .i64 (21 + (n : Int))])) (hg : (wr.alloc o).grownBy w' v.ownBlock) : CodesRel u y d (n + 1) v' w' := by
  have e := preL_succ hn hb
  simp at e
  refine ⟨(h.below.alloc h.below.size o).grown hg (by have := h.below.size; simp; omega) (fun k hk => (h.own.lt k hk).1), ?_⟩
  rw [e, vI_snoc, List.length_append]
  exact ho
set_option maxHeartbeats 4000000 in
theorem lawOf_code_in {I : World → Prop} (C : SeaFns I) (d c : Int) (w : World) (hI : I w) (d0 : -9223372036854775808 ≤ d) (d1 : d ≤ 9223372036854775807) (c0 : -9223372036854775808 ≤ c) (c1 : c ≤ 9223372036854775807) {y : Int} (hd : YearHas y d) (hy : isY y = true) (h0 : manyI c = 0) :
    Calls Tryd.prog 4 #[.int .i64 d, .int .i64 c] w fun e w' => e = .returned (.bool true) ∧ Below w.heap.size w w' := by
  have HB := Kp.mk (Bl.mk (Below.refl w.heap.size w))
  have HI := Kp.mk (fun (v : World) (h : Below w.heap.size w v) => C.keep hI h)
  clear hI
  have rl := Kp.mk (fun v (hw : Below w.heap.size w v) => C.lives v (HI.out v hw))
  have r1 := Kp.mk (fun v (hw : Below w.heap.size w v) => C.of_code v (HI.out v hw) d0 d1 c0 c1 h0)
  have r2 := Kp.mk (fun v (hw : Below w.heap.size w v) => C.codes_in v (HI.out v hw) d0 d1 hd hy rfl)
  have r3 := Kp.mk (fun w => refOf_is w d0 d1 hd (b := true) hy)
  have r4 := Kp.mk (fun w => refSM_is (from_zero h0) h0 w)
  clear C d0 d1 c0 c1 hd hy h0
  go_enter Tryd.func4, Tryd.ntmps4
  go_wp2_with fail
  refine (r1.out _ HB.out.below).mono ?_
  rintro e u1 ⟨rfl, hbl⟩
  have HB := Kp.mk (HB.out.step hbl)
  clear hbl
  go_wp2_with fail
  refine (r2.out _ HB.out.below).mono ?_
  rintro e u2 ⟨v0, hs, rfl, hbl⟩
  have HS := Kp.mk hs
  clear hs
  have HB := Kp.mk (HB.out.step hbl)
  clear hbl
  clear HS
  go_wp2_with fail
  refine (r3.out _).mono ?_
  rintro e w' ⟨rfl, rfl⟩
  go_wp2_with fail
  refine (r4.out _).mono ?_
  rintro e w' ⟨rfl, rfl⟩
  go_wp2_with fail
  refine (rl.out _ HB.out.below).mono ?_
  rintro e u3 ⟨rfl, hbl⟩
  have HB := Kp.mk (HB.out.step hbl)
  clear hbl
  go_wp2_with fail
  go_ret
  exact ⟨rfl, HB.out.below⟩
set_option maxHeartbeats 4000000 in
theorem lawOf_code_out {I : World → Prop} (C : SeaFns I) (d c : Int) (w : World) (hI : I w) (d0 : -9223372036854775808 ≤ d) (d1 : d ≤ 9223372036854775807) (c0 : -9223372036854775808 ≤ c) (c1 : c ≤ 9223372036854775807) {y : Int} (hd : YearHas y d) (hy : isY y = false) (h0 : manyI c = 0) :
    Calls Tryd.prog 4 #[.int .i64 d, .int .i64 c] w fun e w' => e = .returned (.bool true) ∧ Below w.heap.size w w' := by
  have HB := Kp.mk (Bl.mk (Below.refl w.heap.size w))
  have HI := Kp.mk (fun (v : World) (h : Below w.heap.size w v) => C.keep hI h)
  clear hI
  have rl := Kp.mk (fun v (hw : Below w.heap.size w v) => C.lives v (HI.out v hw))
  have r1 := Kp.mk (fun v (hw : Below w.heap.size w v) => C.of_code v (HI.out v hw) d0 d1 c0 c1 h0)
  have r2 := Kp.mk (fun v (hw : Below w.heap.size w v) => C.codes_out v (HI.out v hw) d0 d1 hd hy)
  have r3 := Kp.mk (fun w => refOf_is w d0 d1 hd (b := false) hy)
  have r4 := Kp.mk (fun w => refSM_is (from_zero h0) h0 w)
  clear C d0 d1 c0 c1 hd hy h0
  go_enter Tryd.func4, Tryd.ntmps4
  go_wp2_with fail
  refine (r1.out _ HB.out.below).mono ?_
  rintro e u1 ⟨rfl, hbl⟩
  have HB := Kp.mk (HB.out.step hbl)
  clear hbl
  go_wp2_with fail
  refine (r2.out _ HB.out.below).mono ?_
  rintro e u2 ⟨p, k, rfl, hbl⟩
  have HB := Kp.mk (HB.out.step hbl)
  clear hbl
  go_wp2_with fail
  refine (r3.out _).mono ?_
  rintro e w' ⟨rfl, rfl⟩
  go_wp2_with fail
  refine (r4.out _).mono ?_
  rintro e w' ⟨rfl, rfl⟩
  go_wp2_with fail
  refine (rl.out _ HB.out.below).mono ?_
  rintro e u3 ⟨rfl, hbl⟩
  have HB := Kp.mk (HB.out.step hbl)
  clear hbl
  go_wp2_with fail
  go_ret
  exact ⟨rfl, HB.out.below⟩
set_option maxHeartbeats 4000000 in
theorem lawOf_out {I : World → Prop} (C : SeaFns I) (d c : Int) (w : World) (hI : I w) (d0 : -9223372036854775808 ≤ d) (d1 : d ≤ 9223372036854775807) (c0 : -9223372036854775808 ≤ c) (c1 : c ≤ 9223372036854775807) {y : Int} (hd : YearHas y d) (hy : isY y = false) (h0 : ¬ manyI c = 0) :
    Calls Tryd.prog 4 #[.int .i64 d, .int .i64 c] w fun e w' => e = .returned (.bool true) ∧ Below w.heap.size w w' := by
  have HB := Kp.mk (Bl.mk (Below.refl w.heap.size w))
  have HI := Kp.mk (fun (v : World) (h : Below w.heap.size w v) => C.keep hI h)
  clear hI
  have rl := Kp.mk (fun v (hw : Below w.heap.size w v) => C.lives v (HI.out v hw))
  obtain ⟨f, hf⟩ : ∃ f, fromI c = f := ⟨_, rfl⟩
  obtain ⟨m, hm⟩ : ∃ m, manyI c = m := ⟨_, rfl⟩
  have r1 := Kp.mk (fun v (hw : Below w.heap.size w v) => C.of_out v (HI.out v hw) d0 d1 c0 c1 h0 hd hy)
  have r2 := Kp.mk (fun v (hw : Below w.heap.size w v) => C.codes_out v (HI.out v hw) d0 d1 hd hy)
  have r3 := Kp.mk (fun w => refOf_is w d0 d1 hd (b := false) hy)
  have r4 := Kp.mk (fun w => refSM_is hf hm w)
  have t1 : (m == 0) = false := by rw [beq_eq_false_iff_ne, ← hm]; exact h0
  clear C d0 d1 c0 c1 hd hy h0 hf hm
  go_enter Tryd.func4, Tryd.ntmps4
  go_wp2_with fail
  refine (r1.out _ HB.out.below).mono ?_
  rintro e u1 ⟨rfl, hbl⟩
  have HB := Kp.mk (HB.out.step hbl)
  clear hbl
  go_wp2_with fail
  refine (r2.out _ HB.out.below).mono ?_
  rintro e u2 ⟨p, k, rfl, hbl⟩
  have HB := Kp.mk (HB.out.step hbl)
  clear hbl
  go_wp2_with fail
  refine (r3.out _).mono ?_
  rintro e w' ⟨rfl, rfl⟩
  go_wp2_with fail
  refine (r4.out _).mono ?_
  rintro e w' ⟨rfl, rfl⟩
  go_wp2_with fail
  refine (rl.out _ HB.out.below).mono ?_
  rintro e u3 ⟨rfl, hbl⟩
  have HB := Kp.mk (HB.out.step hbl)
  clear hbl
  go_wp2_with fail
  go_ret
  exact ⟨rfl, HB.out.below⟩
set_option maxHeartbeats 4000000 in
theorem lawOf_true {I : World → Prop} (C : SeaFns I) (d c : Int) (w : World) (hI : I w) (d0 : -9223372036854775808 ≤ d) (d1 : d ≤ 9223372036854775807) (c0 : -9223372036854775808 ≤ c) (c1 : c ≤ 9223372036854775807) {y : Int} (hd : YearHas y d) (hy : isY y = true) (h0 : ¬ manyI c = 0) (hb : ofB y c d = true) :
    Calls Tryd.prog 4 #[.int .i64 d, .int .i64 c] w fun e w' => e = .returned (.bool true) ∧ Below w.heap.size w w' := by
  have HB := Kp.mk (Bl.mk (Below.refl w.heap.size w))
  have HI := Kp.mk (fun (v : World) (h : Below w.heap.size w v) => C.keep hI h)
  clear hI
  have rl := Kp.mk (fun v (hw : Below w.heap.size w v) => C.lives v (HI.out v hw))
  obtain ⟨f, hf⟩ : ∃ f, fromI c = f := ⟨_, rfl⟩
  obtain ⟨m, hm⟩ : ∃ m, manyI c = m := ⟨_, rfl⟩
  obtain ⟨z, hz⟩ : ∃ z, ofY y c d = z := ⟨_, rfl⟩
  have r1 := Kp.mk (fun v (hw : Below w.heap.size w v) => C.of_in v (HI.out v hw) d0 d1 c0 c1 h0 hd hy hz hb)
  have r2 := Kp.mk (fun v (hw : Below w.heap.size w v) => C.codes_in v (HI.out v hw) d0 d1 hd hy rfl)
  have r3 := Kp.mk (fun w => refOf_is w d0 d1 hd (b := true) hy)
  have r4 := Kp.mk (fun w => refSM_is hf hm w)
  have r5 : Kp (∀ w, Calls Tryd.prog 17 #[.int .i64 d, .int .i64 c] w fun x w' => x = .returned (.tuple #[.int .i64 z, .bool true]) ∧ Below w.heap.size w w') := Kp.mk (fun w => by have := refSOf_is (c := c) hy hd w; rw [hz, hb] at this; exact this)
  have r6 := Kp.mk (fun c w => refSOf_is (c := c) hy hd w)
  have t1 : (m == 0) = false := by rw [beq_eq_false_iff_ne, ← hm]; exact h0
  obtain ⟨i0, hi, hz0, hz1, hz2⟩ := infoI
  have hzr : hasR z c d = true := by
    rw [← hz]
    unfold ofY
    unfold ofB at hb
    by_cases g : hasR (y - 1) c d = true
    · rw [if_pos g]; exact g
    · rw [if_neg g]
      have g2 : hasR y c d = true := by simpa [g] using hb
      rw [if_pos g2]; exact g2
  have hzi := (hasR_iff z c d).1 hzr
  obtain ⟨lo, hlo⟩ : ∃ lo, loR z c = lo := ⟨_, rfl⟩
  obtain ⟨hh, hhi⟩ : ∃ hh, hiR z c = hh := ⟨_, rfl⟩
  have hrr : runR z c = .agg #[.int .i8 0, .int .i64 lo, .int .i8 0, .int .i64 hh] := by unfold runR; rw [if_pos hzi.1, hlo, hhi]
  rw [hlo, hhi] at hzi
  have hzb := (isY_iff z).1 (runE_ok hzi.1).2.1
  have r7 := Kp.mk (fun v (hw : Below w.heap.size w v) => C.run v (HI.out v hw) (by omega) (by omega) c0 c1 hzi.1 hrr)
  have t2 : ¬ d < lo := by omega
  have t3 : ¬ hh < d := by omega
  clear hzr hzi hlo hhi hrr hzb
  clear C d0 d1 c0 c1 hd hy h0 hf hm hz hb
  go_enter Tryd.func4, Tryd.ntmps4
  go_wp2_with fail
  refine (r1.out _ HB.out.below).mono ?_
  rintro e u1 ⟨rfl, hbl⟩
  have HB := Kp.mk (HB.out.step hbl)
  clear hbl
  go_wp2_with fail
  refine (r2.out _ HB.out.below).mono ?_
  rintro e u2 ⟨v0, hs, rfl, hbl⟩
  have HS := Kp.mk hs
  clear hs
  have HB := Kp.mk (HB.out.step hbl)
  clear hbl
  go_wp2_with fail
  refine (r3.out _).mono ?_
  rintro e w' ⟨rfl, rfl⟩
  go_wp2_with fail
  refine (r4.out _).mono ?_
  rintro e w' ⟨rfl, rfl⟩
  go_wp2_with fail
  refine (r5.out _).mono ?_
  rintro e u3 ⟨rfl, hbl⟩
  have HB := Kp.mk (HB.out.step hbl)
  have HS := Kp.mk (HS.out.step hbl)
  clear hbl
  go_wp2_with fail
  have HC := Kp.mk (show CodesRel u3 y d 0 (.slice none 0 0) u3 from ⟨Below.refl _ _, World.ownsRow_nil _ _ _ _⟩)
  go_loopw [16, 17] (fun cs k wr => ∃ (n : Nat) (v : Value), n ≤ 21 ∧ k = .int .i64 (21 + (n : Int)) ∧ v = cs ∧ Kp (CodesRel u3 y d n v wr)) (fun _ k _ => (42 - intOf k).toNat)
  case atStart => exact ⟨0, _, by omega, rfl, rfl, HC⟩
  case round =>
    obtain ⟨n, v, hn, rfl, rfl, HC⟩ := hrel
    by_cases hlt : n < 21
    · have w1 : IntKind.i64.wrap (21 + (n : Int) + 1) = 21 + (n : Int) + 1 := IntWalk.i64_in _ (by omega)
      have t9 : 21 + (n : Int) < 42 := by omega
      obtain ⟨b, hb⟩ : ∃ b, ofB y (21 + (n : Int)) d = b := ⟨_, rfl⟩
      have r8 : Kp (∀ w, Calls Tryd.prog 17 #[.int .i64 d, .int .i64 (21 + (n : Int))] w fun x w' => x = .returned (.tuple #[.int .i64 (ofY y (21 + (n : Int)) d), .bool b]) ∧ Below w.heap.size w w') := Kp.mk (fun w => by have := r6.out (21 + (n : Int)) w; rw [hb] at this; exact this)
      have HN := Kp.mk hb
      clear hb
      go_wp2_with fail
      refine (r8.out _).mono ?_
      rintro e wa ⟨rfl, hbl⟩
      have HC := Kp.mk (HC.out.step hbl)
      clear hbl
      cases b
      · go_wp2_with fail
        go_roundw
        case rel => exact ⟨n + 1, v, by omega, by go_num, rfl, Kp.mk (HC.out.skip hlt HN.out)⟩
        case measure => simp [intOf]; omega
      · go_wp2_with (at_builtin; refine wpList_append_own _ rfl (.tmp 116) (.tmp 118) 42 rfl u3.heap.size 3 i0 (.int .i64 0) 1 8 Tryd.underlying42 hi hz0 hz1 hz2 rfl (by decide) v (preL y d n).length (vI (preL y d n)) rfl (HC.out.own.alloc _) ⟨wa.heap.size, 0, none⟩ 1 1 [.int .i64 (21 + (n : Int))] rfl rfl ?c1 ?c2 ?c3 ?c4 ?c5 ?_)
        case c1 => exact one_row _ _ _
        case c2 => intro u hu; simp at hu; subst hu; rfl
        case c3 => have := preL_len y d n; unfold maxLen; omega
        case c4 => have := preL_len y d n; omega
        case c5 => have := HC.out.below.size; simp; omega
        intro v' w' hown' hgrow _
        obtain ⟨a', cap', rfl⟩ := own_form hown'
        have HC := Kp.mk (HC.out.add hlt HN.out _ hown' hgrow)
        clear hown' hgrow
        go_wp2_with fail
        go_roundw
        case rel => exact ⟨n + 1, _, by omega, by go_num, rfl, HC⟩
        case measure => simp [intOf]; omega
    · obtain rfl : n = 21 := by omega
      obtain ⟨kk, hsl⟩ := own_sl HC.out.own (by have := preL_len y d 21; omega)
      rw [preL_all] at hsl
      have HS := Kp.mk (HS.out.step HC.out.below)
      have HB := Kp.mk (HB.out.step HC.out.below)
      have HU := Kp.mk hsl
      clear hsl hn hlt HC
      go_wp2_with fail
      refine (list_is _ HS.out HU.out).mono ?_
      rintro e wz ⟨rfl, hbl⟩
      have HB := Kp.mk (HB.out.step hbl)
      clear hbl HS HU
      go_wp2_with fail
      refine (r7.out _ HB.out.below).mono ?_
      rintro e u1 ⟨rfl, hbl⟩
      have HB := Kp.mk (HB.out.step hbl)
      clear hbl
      go_upto_region 23 with fail
      have HX := Kp.mk (rb_new lo hh 32 HB.out.below)
      have hbl := (Below.refl u1.heap.size u1).alloc (Nat.le_refl _) (.cells #[.int .i8 0, .int .i64 lo, .int .i8 0, .int .i64 hh] 32)
      have HB := Kp.mk (HB.out.step hbl)
      clear hbl
      generalize u1.alloc (.cells #[.int .i8 0, .int .i64 lo, .int .i8 0, .int .i64 hh] 32) = u2 at *
      generalize u1.heap.size = g1 at *
      have kHX0 := HX.out.c0
      have kHX1 := HX.out.c1
      have kHX2 := HX.out.c2
      have kHX3 := HX.out.c3
      go_wp2_with fail
      refine (rl.out _ HB.out.below).mono ?_
      rintro e u3 ⟨rfl, hbl⟩
      clear kHX0 kHX1 kHX2 kHX3
      have HB := Kp.mk (HB.out.step hbl)
      have HX := Kp.mk (HX.out.step hbl)
      clear hbl
      have kHX0 := HX.out.c0
      have kHX1 := HX.out.c1
      have kHX2 := HX.out.c2
      have kHX3 := HX.out.c3
      go_wp2_with fail
      go_ret
      exact ⟨rfl, HB.out.below⟩
set_option maxHeartbeats 4000000 in
theorem lawOf_false {I : World → Prop} (C : SeaFns I) (d c : Int) (w : World) (hI : I w) (d0 : -9223372036854775808 ≤ d) (d1 : d ≤ 9223372036854775807) (c0 : -9223372036854775808 ≤ c) (c1 : c ≤ 9223372036854775807) {y : Int} (hd : YearHas y d) (hy : isY y = true) (h0 : ¬ manyI c = 0) (hb : ofB y c d = false) :
    Calls Tryd.prog 4 #[.int .i64 d, .int .i64 c] w fun e w' => e = .returned (.bool true) ∧ Below w.heap.size w w' := by
  have HB := Kp.mk (Bl.mk (Below.refl w.heap.size w))
  have HI := Kp.mk (fun (v : World) (h : Below w.heap.size w v) => C.keep hI h)
  clear hI
  have rl := Kp.mk (fun v (hw : Below w.heap.size w v) => C.lives v (HI.out v hw))
  obtain ⟨f, hf⟩ : ∃ f, fromI c = f := ⟨_, rfl⟩
  obtain ⟨m, hm⟩ : ∃ m, manyI c = m := ⟨_, rfl⟩
  obtain ⟨z, hz⟩ : ∃ z, ofY y c d = z := ⟨_, rfl⟩
  have r1 := Kp.mk (fun v (hw : Below w.heap.size w v) => C.of_in v (HI.out v hw) d0 d1 c0 c1 h0 hd hy hz hb)
  have r2 := Kp.mk (fun v (hw : Below w.heap.size w v) => C.codes_in v (HI.out v hw) d0 d1 hd hy rfl)
  have r3 := Kp.mk (fun w => refOf_is w d0 d1 hd (b := true) hy)
  have r4 := Kp.mk (fun w => refSM_is hf hm w)
  have r5 : Kp (∀ w, Calls Tryd.prog 17 #[.int .i64 d, .int .i64 c] w fun x w' => x = .returned (.tuple #[.int .i64 z, .bool false]) ∧ Below w.heap.size w w') := Kp.mk (fun w => by have := refSOf_is (c := c) hy hd w; rw [hz, hb] at this; exact this)
  have r6 := Kp.mk (fun c w => refSOf_is (c := c) hy hd w)
  have t1 : (m == 0) = false := by rw [beq_eq_false_iff_ne, ← hm]; exact h0
  obtain ⟨i0, hi, hz0, hz1, hz2⟩ := infoI
  clear C d0 d1 c0 c1 hd hy h0 hf hm hz hb
  go_enter Tryd.func4, Tryd.ntmps4
  go_wp2_with fail
  refine (r1.out _ HB.out.below).mono ?_
  rintro e u1 ⟨rfl, hbl⟩
  have HB := Kp.mk (HB.out.step hbl)
  clear hbl
  go_wp2_with fail
  refine (r2.out _ HB.out.below).mono ?_
  rintro e u2 ⟨v0, hs, rfl, hbl⟩
  have HS := Kp.mk hs
  clear hs
  have HB := Kp.mk (HB.out.step hbl)
  clear hbl
  go_wp2_with fail
  refine (r3.out _).mono ?_
  rintro e w' ⟨rfl, rfl⟩
  go_wp2_with fail
  refine (r4.out _).mono ?_
  rintro e w' ⟨rfl, rfl⟩
  go_wp2_with fail
  refine (r5.out _).mono ?_
  rintro e u3 ⟨rfl, hbl⟩
  have HB := Kp.mk (HB.out.step hbl)
  have HS := Kp.mk (HS.out.step hbl)
  clear hbl
  go_wp2_with fail
  have HC := Kp.mk (show CodesRel u3 y d 0 (.slice none 0 0) u3 from ⟨Below.refl _ _, World.ownsRow_nil _ _ _ _⟩)
  go_loopw [16, 17] (fun cs k wr => ∃ (n : Nat) (v : Value), n ≤ 21 ∧ k = .int .i64 (21 + (n : Int)) ∧ v = cs ∧ Kp (CodesRel u3 y d n v wr)) (fun _ k _ => (42 - intOf k).toNat)
  case atStart => exact ⟨0, _, by omega, rfl, rfl, HC⟩
  case round =>
    obtain ⟨n, v, hn, rfl, rfl, HC⟩ := hrel
    by_cases hlt : n < 21
    · have w1 : IntKind.i64.wrap (21 + (n : Int) + 1) = 21 + (n : Int) + 1 := IntWalk.i64_in _ (by omega)
      have t9 : 21 + (n : Int) < 42 := by omega
      obtain ⟨b, hb⟩ : ∃ b, ofB y (21 + (n : Int)) d = b := ⟨_, rfl⟩
      have r8 : Kp (∀ w, Calls Tryd.prog 17 #[.int .i64 d, .int .i64 (21 + (n : Int))] w fun x w' => x = .returned (.tuple #[.int .i64 (ofY y (21 + (n : Int)) d), .bool b]) ∧ Below w.heap.size w w') := Kp.mk (fun w => by have := r6.out (21 + (n : Int)) w; rw [hb] at this; exact this)
      have HN := Kp.mk hb
      clear hb
      go_wp2_with fail
      refine (r8.out _).mono ?_
      rintro e wa ⟨rfl, hbl⟩
      have HC := Kp.mk (HC.out.step hbl)
      clear hbl
      cases b
      · go_wp2_with fail
        go_roundw
        case rel => exact ⟨n + 1, v, by omega, by go_num, rfl, Kp.mk (HC.out.skip hlt HN.out)⟩
        case measure => simp [intOf]; omega
      · go_wp2_with (at_builtin; refine wpList_append_own _ rfl (.tmp 116) (.tmp 118) 42 rfl u3.heap.size 3 i0 (.int .i64 0) 1 8 Tryd.underlying42 hi hz0 hz1 hz2 rfl (by decide) v (preL y d n).length (vI (preL y d n)) rfl (HC.out.own.alloc _) ⟨wa.heap.size, 0, none⟩ 1 1 [.int .i64 (21 + (n : Int))] rfl rfl ?c1 ?c2 ?c3 ?c4 ?c5 ?_)
        case c1 => exact one_row _ _ _
        case c2 => intro u hu; simp at hu; subst hu; rfl
        case c3 => have := preL_len y d n; unfold maxLen; omega
        case c4 => have := preL_len y d n; omega
        case c5 => have := HC.out.below.size; simp; omega
        intro v' w' hown' hgrow _
        obtain ⟨a', cap', rfl⟩ := own_form hown'
        have HC := Kp.mk (HC.out.add hlt HN.out _ hown' hgrow)
        clear hown' hgrow
        go_wp2_with fail
        go_roundw
        case rel => exact ⟨n + 1, _, by omega, by go_num, rfl, HC⟩
        case measure => simp [intOf]; omega
    · obtain rfl : n = 21 := by omega
      obtain ⟨kk, hsl⟩ := own_sl HC.out.own (by have := preL_len y d 21; omega)
      rw [preL_all] at hsl
      have HS := Kp.mk (HS.out.step HC.out.below)
      have HB := Kp.mk (HB.out.step HC.out.below)
      have HU := Kp.mk hsl
      clear hsl hn hlt HC
      go_wp2_with fail
      refine (list_is _ HS.out HU.out).mono ?_
      rintro e wz ⟨rfl, hbl⟩
      have HB := Kp.mk (HB.out.step hbl)
      clear hbl HS HU
      go_wp2_with fail
      refine (rl.out _ HB.out.below).mono ?_
      rintro e u1 ⟨rfl, hbl⟩
      have HB := Kp.mk (HB.out.step hbl)
      clear hbl
      go_wp2_with fail
      go_ret
      exact ⟨rfl, HB.out.below⟩
theorem lawOf_any {I : World → Prop} (C : SeaFns I) (d c : Int) (w : World) (hI : I w) (d0 : -9223372036854775808 ≤ d) (d1 : d ≤ 9223372036854775807) (c0 : -9223372036854775808 ≤ c) (c1 : c ≤ 9223372036854775807) :
    Calls Tryd.prog 4 #[.int .i64 d, .int .i64 c] w fun e w' => e = .returned (.bool true) ∧ Below w.heap.size w w' := by
  obtain ⟨y, hd⟩ := year_exists d
  cases hy : isY y
  · by_cases h0 : manyI c = 0
    · exact lawOf_code_out C d c w hI d0 d1 c0 c1 hd hy h0
    · exact lawOf_out C d c w hI d0 d1 c0 c1 hd hy h0
  · by_cases h0 : manyI c = 0
    · exact lawOf_code_in C d c w hI d0 d1 c0 c1 hd hy h0
    · cases hb : ofB y c d
      · exact lawOf_false C d c w hI d0 d1 c0 c1 hd hy h0 hb
      · exact lawOf_true C d c w hI d0 d1 c0 c1 hd hy h0 hb
end Go.Proofs.YtnmpejhljdkkgaaDoor
