/-
 DERIVED. CONTRACTS of package runsets (the library's functions that it calls): slices.Values, AppendSeq, Collect. Written by mkrsd9.py.
 DERIVED. CONTRACTS of package runsets (the library's functions that it calls): AppendSeq, Collect, Values. Written by mkrsd10.py.
-/
import Derived.Test.YtndjcmclmhoigaaGreatDoorPRsDvA
import Derived.Test.YtndjcmclmhoigaaGreatDoorPA7
import Derived.RangeFuncNested
import Derived.RangeFuncBox
import Derived.RangeFuncLeaves
import Derived.Shelf.Abstract
import Derived.WalkKit
import Derived.OwnWalkIn
import Derived.TacticsInMore
import Derived.LoopNIn
import Derived.LoopIn
import Derived.Maps.AppendAt
namespace Go.Proofs.YtndjcmclmhoigaaGreatDoor
open Go.RowKit Go.Shelf
set_option maxRecDepth 100000
attribute [local go_sem] Oper.semAt_some

variable {w W : World} {a : Option Addr} {l : List Rn}
/-- a run as a value -/
def agR (r : Rn) : Value := .agg #[.int .i8 r.f, .int .i64 r.d, .int .i8 r.g, .int .i64 r.e]
def objR (r : Rn) : Obj := .cells #[.int .i8 r.f, .int .i64 r.d, .int .i8 r.g, .int .i64 r.e] 26
theorem take_next {p : Nat} {r : Rn} (hr : l[p]? = some r) : l.take (p + 1) = l.take p ++ [r] := by rw [List.take_add_one, hr]; rfl
set_option maxHeartbeats 2000000 in
theorem vals1_in (F : Fence) (n : Nat) (h7 : F.fn 145) (hro : F.round = none) (hn : 1 ≤ n) (lp Bs n₀ p : Nat) (hreach : l.length ≤ maxLen) (J Jx : List Rn → World → Prop)
 (W : World) (hJa : AbidesFrom W.heap.size J)
 (hY : ∀ pre x W, J pre W → pre.length < l.length → YieldAt F (n - 1) Tryz.prog lp #[agR x] W fun e W' =>
  (e = .returned (.bool true) ∧ J (pre ++ [x]) W' ∧ Below n₀ W W') ∨ (e = .returned (.bool false) ∧ Jx (pre ++ [x]) W'))
 (hn₀ : n₀ ≤ W.heap.size) (hBs : W.cell? ⟨Bs, 0, none⟩ = some (.slice a l.length p))
 (hL : ∀ i r, l[i]? = some r → ∃ g o, a = some ⟨g, o, none⟩ ∧ g < n₀ ∧ At4 W g (o + i * 4) r) (h0 : J [] W) :
 CallsIn F n Tryz.prog 145 #[.func (.yield lp) #[] #[], .pointer (some ⟨Bs, 0, none⟩)] W fun e W' => (∃ v, e = .returned v) ∧
  ((∃ ys, ys = l ∧ J ys W') ∨ (∃ pre, pre <+: l ∧ Jx pre W')) := by
 obtain ⟨k, hk⟩ : ∃ k, l.length = k := ⟨_, rfl⟩
 have hk2 : k ≤ 9223372036854775807 := by unfold maxLen at hreach; omega
 have HK := Kp.mk hk
 have HLs := Kp.mk hL
 have HYs := Kp.mk hY
 have HJa := Kp.mk hJa
 rw [hk] at hBs
 clear hL hY hJa hreach hk
 refine callsIn_of_wp Tryz.func145 rfl h7 ?_ hro
 simp only [Tryz.ntmps145, List.size_toArray, List.length_cons, List.length_nil, Nat.reduceAdd, Nat.reduceSub, Array.replicate_succ, Array.replicate_zero, List.push_toArray, List.append_toArray, List.nil_append, List.cons_append]
 gi_wp2
 clear hBs
 gi_loopw [7] (fun i wr => ∃ q : Nat, q ≤ k ∧ i = .int .i64 q ∧ Kp (J (l.take q) wr) ∧ Kp (Below n₀ W wr) ∧ Kp (W.heap.size ≤ wr.heap.size))
  (fun i _ => k - (intOf i).toNat)
 case atStart => exact ⟨0, Nat.zero_le _, rfl, Kp.mk h0, Kp.mk (Below.refl _ _), Kp.mk (Nat.le_refl _)⟩
 case round =>
  obtain ⟨q, hq, rfl, HJ, HX, HS⟩ := hrel
  by_cases hlt : q < k
  ·have t1 : decide ((q : Int) < (k : Int)) = true := decide_eq_true (by omega)
   have b1 : (q : Int) < (k : Int) := by omega
   have wq1 : IntKind.i64.wrap ((q : Int) + 1) = (q : Int) + 1 := IntWalk.i64_in _ (by omega)
   obtain ⟨r, hr⟩ : ∃ r, l[q]? = some r := ⟨l[q]'(by have := HK.out; omega), List.getElem?_eq_getElem (by have := HK.out; omega)⟩
   obtain ⟨g, o, rfl, hg, k0, k1, k2, k3⟩ := HLs.out q r hr
   have k0 := (HX.out.cell (p := ⟨g, o + q * 4, none⟩) hg).trans k0
   have k1 := (HX.out.cell (p := ⟨g, o + q * 4 + 1, none⟩) hg).trans k1
   have k2 := (HX.out.cell (p := ⟨g, o + q * 4 + 2, none⟩) hg).trans k2
   have k3 := (HX.out.cell (p := ⟨g, o + q * 4 + 3, none⟩) hg).trans k3
   have hX1 := HX.out.alloc (o := objR r) (Nat.le_trans hn₀ HS.out)
   have HR := Kp.mk (rg_new (w := wr) r 26 (Below.refl _ _))
   have c0 := HR.out.c0; have c1 := HR.out.c1; have c2 := HR.out.c2; have c3 := HR.out.c3
   have hlq : (l.take q).length < l.length := by rw [List.length_take, HK.out]; omega
   obtain ⟨fn, tmps, assign, body, hy, hR⟩ := HYs.out _ r (wr.alloc (objR r)) (HJa.out _ _ _ none HJ.out (World.grownBy_alloc wr _ none) (fun r e => by cases e)) hlq
   unfold objR agR at hy
   have HR2 := Kp.mk hR
   have HX1 := Kp.mk hX1
   clear hR hX1 hlq
   gi_wp2
   refine HR2.out.mono ?_
   clear hy c0 c1 c2 c3 k0 k1 k2 k3 HR2
   rintro e W3 (⟨rfl, hJ3, hk3⟩ | ⟨rfl, hJx3⟩)
   ·have HJ3 := Kp.mk hJ3
    have HX3 := Kp.mk (HX1.out.trans hk3)
    have HS3 : Kp (W.heap.size ≤ W3.heap.size) := Kp.mk (by
     have h1 := hk3.size
     have h2 := HS.out
     rw [World.size_alloc] at h1
     omega)
    clear hJ3 hk3
    gi_wp2
    go_roundw
    case rel => exact ⟨q + 1, by omega, by go_num, Kp.mk (by rw [take_next hr]; exact HJ3.out), HX3, HS3⟩
    case measure => simp [intOf]; omega
   ·have HJ3 := Kp.mk hJx3
    clear hJx3
    gi_wp2
    refine bodyPost_ret (results_none rfl _ _ _) rfl ?_
    exact ⟨⟨_, rfl⟩, .inr ⟨_, by rw [← take_next hr]; exact List.take_prefix _ _, HJ3.out⟩⟩
  ·obtain rfl : q = k := by omega
   gi_wp2
   go_end0
   exact ⟨⟨_, rfl⟩, .inl ⟨_, by rw [List.take_of_length_le (by rw [HK.out]; exact Nat.le_refl _)], HJ.out⟩⟩
/-- slices.Values gives the runs in their order, at Kp := Below n₀ -/
theorem vals_stops (F : Fence) (n : Nat) (h7 : F.fn 145) (hro : F.round = none) (hn : 1 ≤ n) (Bs n₀ p : Nat) (hreach : l.length ≤ maxLen) (w : World) (hBs : Bs < w.heap.size) (hn₀ : n₀ ≤ w.heap.size)
 (hc : w.cell? ⟨Bs, 0, none⟩ = some (.slice a l.length p)) (hL : ∀ i r, l[i]? = some r → ∃ g o, a = some ⟨g, o, none⟩ ∧ g < n₀ ∧ At4 w g (o + i * 4) r) :
 SeqStopsK F n Tryz.prog 145 #[.pointer (some ⟨Bs, 0, none⟩)] (fun x : Rn => #[agR x]) (Below n₀) (fun ys => ys = l) (fun pre => pre <+: l) l.length w := fun lp J Jx W hW hJ _ hY h0 =>
 vals1_in F n h7 hro hn lp Bs n₀ p hreach J Jx W hJ hY (Nat.le_trans hn₀ hW.size) ((hW.cell (p := ⟨Bs, 0, none⟩) hBs).trans hc) (fun i r hr => by
  obtain ⟨g, o, e, hg, k0, k1, k2, k3⟩ := hL i r hr
  have hg2 : g < w.heap.size := Nat.lt_of_lt_of_le hg hn₀
  exact ⟨g, o, e, hg, (hW.cell (p := ⟨g, o + i * 4, none⟩) hg2).trans k0, (hW.cell (p := ⟨g, o + i * 4 + 1, none⟩) hg2).trans k1, (hW.cell (p := ⟨g, o + i * 4 + 2, none⟩) hg2).trans k2, (hW.cell (p := ⟨g, o + i * 4 + 3, none⟩) hg2).trans k3⟩) h0
end Go.Proofs.YtndjcmclmhoigaaGreatDoor
namespace Go.Proofs.YtndjcmclmhoigaaGreatDoor
open Go.RowKit Go.Shelf
set_option maxRecDepth 100000
attribute [local go_sem] Oper.semAt_some

variable {w W : World} {a : Option Addr} {l : List Rn}
set_option maxHeartbeats 4000000 in
theorem appSeq_in (F : Fence) (n : Nat) (h4 : F.fn 164) (h7 : F.fn 145) (hro : F.round = none) (hn : 3 ≤ n) (Bs p : Nat) (hreach : l.length ≤ 1000000) (w : World)
 (hBs : Bs < w.heap.size) (hc : w.cell? ⟨Bs, 0, none⟩ = some (.slice a l.length p)) (hL : Lr w a l w) :
 CallsIn F n Tryz.prog 164 #[.slice none 0 0, .func (.func 145) #[] #[.pointer (some ⟨Bs, 0, none⟩)]] w fun e W' => ∃ v, e = .returned v ∧ Ag w l v W' := by
 have h1 : 1 ≤ n := by omega
 obtain ⟨i0, hi, hz0, hz1, hz2⟩ := infoRn4
 refine callsIn_of_wp_marks Tryz.func164 rfl h4 ?_ hro
 simp only [Tryz.ntmps164, List.size_toArray, List.length_cons, List.length_nil, Nat.reduceAdd, Nat.reduceSub, Array.replicate_succ, Array.replicate_zero, List.push_toArray, List.append_toArray, List.nil_append, List.cons_append]
 gi_wp2
 have bO := Boxed.new w 60 (.slice none 0 0)
 have hB0 : Below w.heap.size w (w.alloc (.cells #[.slice none 0 0] 60)) := (Below.refl _ w).alloc (Nat.le_refl _) _
 refine wpIn_rangeFunc_ownH hro h1 (gf := 145) (lb := #[.pointer (some ⟨Bs, 0, none⟩)]) rfl h7 (enters_of Tryz.func145 (by kernel_rfl) rfl)
  (vals_stops F (n - 1) h7 hro (by omega) Bs w.heap.size p (by unfold maxLen; omega) _ (by simp; omega) (by simp) ((hB0.cell (p := ⟨Bs, 0, none⟩) hBs).trans hc) (fun i r hr => by
   obtain ⟨g, o, e, hg, k0, k1, k2, k3⟩ := hL.at4 i r hr
   exact ⟨g, o, e, hg, (hB0.cell (p := ⟨g, o + i * 4, none⟩) hg).trans k0, (hB0.cell (p := ⟨g, o + i * 4 + 1, none⟩) hg).trans k1, (hB0.cell (p := ⟨g, o + i * 4 + 2, none⟩) hg).trans k2, (hB0.cell (p := ⟨g, o + i * 4 + 3, none⟩) hg).trans k3⟩))
  belowK_t (belowK_b (by simp)) (Below.refl _ _) (fun _ => rfl)
  (fun pre W => (∃ v, Boxed W w.heap.size 60 v ∧ W.ownsRow w.heap.size 26 4 v pre.length (vL pre) ∧ True) ∧ Below w.heap.size w W)
  (fun _ _ _ => False)
  (OwnFrom.and (Own.from (holdsRow_own w.heap.size w.heap.size 60 26 4 (fun pre => pre.length) (fun pre => vL pre) (fun _ _ => True)) _) (ownFrom_below (Nat.le_refl _) (by simp)))
  (fun _ _ _ _ _ hs _ _ => hs)
  ⟨⟨_, bO, World.ownsRow_nil _ _ _ _, trivial⟩, hB0⟩
  (fun x a' W => ∃ gb, a' = { tmps := #[.slice none 0 0, .func (.func 145) #[] #[.pointer (some ⟨Bs, 0, none⟩)], .pointer (some ⟨w.heap.size, 0, none⟩), undef, .slice none 0 0, .pointer (some ⟨gb, 0, none⟩), .func (.func 145) #[] #[.pointer (some ⟨Bs, 0, none⟩)], agR x, undef, undef, undef, undef, undef], defers := [] } ∧ W.heap[gb]? = some (.cells #[.int .i8 x.f, .int .i64 x.d, .int .i8 x.g, .int .i64 x.e] 26 (0, 0)))
  (fun x a' s W W' row hx hg hr => by
   obtain ⟨gb, e, hh⟩ := hx
   exact ⟨gb, e, (grownBy_keeps_cells hg (fun r e => (hr r e).2) hh rfl).trans hh⟩) ?assign ?body ?done ?stop
 case assign =>
  rintro lp pre x W K ⟨⟨v, hv, hrow, _⟩, hB⟩ hK
  unfold agR
  gi_wp2
  refine hK _ _ ((KeepsOthers.alloc W _).from _) ((Below.refl _ W).alloc hB.size _) ⟨⟨v, hv.alloc _, hrow.alloc _, trivial⟩, hB.alloc hB.size _⟩ ⟨W.heap.size, rfl, heap_alloc_new _ _⟩
 case body =>
  rintro lp pre x a' W hl ⟨rec, hrec⟩ ⟨⟨v, hv, hrow, _⟩, hB⟩ ⟨gb, rfl, hgb⟩ hlt
  have hcv := hv.cell
  have c0 := cell_of_row W gb 0 _ _ _ hgb
  have c1 := cell_of_row W gb 1 _ _ _ hgb
  have c2 := cell_of_row W gb 2 _ _ _ hgb
  have c3 := cell_of_row W gb 3 _ _ _ hgb
  simp at c0 c1 c2 c3
  have hnew := lr_news (lr_one (w := w) x hB)
  unfold agR
  gi_wp2_with (gi_at_builtin; refine wpListIn_append_own _ rfl (.tmp 8) (.tmp 10) 60 rfl w.heap.size 26 i0 (.agg #[.int .i8 0, .int .i64 0, .int .i8 0, .int .i64 0]) 4 32 Tryz.underlying60 hi hz0 hz1 hz2 rfl (by decide) v _ _ rfl (hrow.alloc _) ⟨W.heap.size, 0, none⟩ 1 1 (vL [x]) rfl (vL_len _) hnew (vL_one _) (by unfold maxLen; omega) (by omega) (by have := hB.size; simp; omega) ?_; intro v' w1 hown' hgrow _; obtain ⟨g', cap', rfl⟩ := ownsRow_succ hown'; obtain ⟨hv1, hv2, hr2, hk2, hb2⟩ := hv.appended (by decide) hrow hB.size (Nat.le_refl _) hown' hgrow; have hc1 := hv1.cell; have hf1 := hv1.frozen)
  exact ⟨hk2.from _, hb2, ⟨_, hv2, by rw [vL_add, List.length_append]; exact hr2, trivial⟩, hB.trans hb2⟩
 case done =>
  rintro D ys W hD rfl ⟨⟨v, hv, hrow, _⟩, hB⟩ hK
  have hcv := hv.cell
  gi_wp2
  refine ⟨by simp, .inl ⟨_, _, rfl, run_takeDeferred hK, ?_⟩⟩
  exact ⟨_, results_tmp rfl _ _ _, v, rfl, hB.trans (belowK_b (w := w) (Nat.le_refl _) W D _ _ (by simp at hD; omega) hK rfl rfl), ownsRow_putObj hrow _ hK rfl⟩
 case stop =>
  rintro D c pre W _ _ h _
  exact h.elim
set_option maxHeartbeats 1000000 in
theorem collect_in (F : Fence) (n : Nat) (h3 : F.fn 143) (h4 : F.fn 164) (h7 : F.fn 145) (hro : F.round = none) (hn : 4 ≤ n) (Bs p : Nat) (hreach : l.length ≤ 1000000) (w : World)
 (hBs : Bs < w.heap.size) (hc : w.cell? ⟨Bs, 0, none⟩ = some (.slice a l.length p)) (hL : Lr w a l w) :
 CallsIn F n Tryz.prog 143 #[.func (.func 145) #[] #[.pointer (some ⟨Bs, 0, none⟩)]] w fun e W' => ∃ v, e = .returned v ∧ Ag w l v W' := by
 have h1 : 1 ≤ n := by omega
 refine callsIn_of_wp Tryz.func143 rfl h3 ?_ hro
 simp only [Tryz.ntmps143, List.size_toArray, List.length_cons, List.length_nil, Nat.reduceAdd, Nat.reduceSub, Array.replicate_succ, Array.replicate_zero, List.push_toArray, List.append_toArray, List.nil_append, List.cons_append]
 gi_wp2_with (gi_at_call 164; refine (appSeq_in F (n - 1) h4 h7 hro (by omega) Bs p hreach _ hBs hc hL).mono ?_; rintro e w' ⟨v, rfl, hA⟩)
 go_ret
 exact ⟨v, rfl, hA⟩
theorem dCollect_is {Bs p : Nat} (hreach : l.length ≤ 1000000) (hBs : Bs < w.heap.size) (hc : w.cell? ⟨Bs, 0, none⟩ = some (.slice a l.length p)) (hL : Lr w a l w) :
 Calls Tryz.prog 143 #[.func (.func 145) #[] #[.pointer (some ⟨Bs, 0, none⟩)]] w fun e W' => ∃ v, e = .returned v ∧ Ag w l v W' :=
 callsIn_wide.1 (collect_in Fence.wide 5 trivial trivial trivial rfl (by omega) Bs p hreach w hBs hc hL)
set_option maxHeartbeats 1000000 in
/-- slices.Values: the list is boxed; the function value holds the box -/
theorem dVals_is {n p : Nat} (w : World) :
 Calls Tryz.prog 107 #[.slice a n p] w fun e w' => e = .returned (.func (.func 145) #[] #[.pointer (some ⟨w.heap.size, 0, none⟩)]) ∧ w' = w.alloc (.cells #[.slice a n p] 60) := by
 go_enter Tryz.func107, Tryz.ntmps107
 go_wp2_with fail
 go_ret
 exact ⟨rfl, rfl⟩
end Go.Proofs.YtndjcmclmhoigaaGreatDoor
