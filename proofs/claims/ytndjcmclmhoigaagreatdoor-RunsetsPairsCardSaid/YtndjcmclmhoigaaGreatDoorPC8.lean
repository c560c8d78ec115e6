/-
 DERIVED. A RANGE OVER A FUNCTION WHOSE ITERATOR KEEPS A STATE OF ITS OWN IN BLOCKS (strings.SplitSeq): the law for whoever ranges over it.
 DERIVED. CONTRACTS of package runsets (the library's functions that it calls): strings.SplitSeq at a comma. Written by mkrsd15.py.
-/
import Derived.RangeFuncNested
import Derived.RangeFuncBound
import Derived.RangeFuncCalls
import Derived.RangeFuncBox
import Derived.RangeFuncLeaves
import Derived.Test.YtndjcmclmhoigaaGreatDoorPB2
import Derived.Test.YtndjcmclmhoigaaGreatDoorPA1
import Derived.Test.YtndjcmclmhoigaaGreatDoorPShelf
import Derived.Lib.IndexLaws
import Derived.Shelf.Abstract
import Derived.WalkKit
import Derived.OwnWalkIn
import Derived.TacticsInMore
import Derived.LoopNIn
import Derived.LoopIn
namespace Go.Proofs.YtndjcmclmhoigaaGreatDoor
open Go.RowKit
set_option maxRecDepth 100000

variable {α : Type} {F : Fence} {n : Nat} {P : Program}
/-- what stands when new blocks are laid, and blocks of the iterator's own are turned -/
def Apart (O : Nat → Prop) (J : List α → World → Prop) : Prop := ∀ s A B row, J s A → A.grownBy B row → (∀ r, row = some r → O r) → J s B
/-- the iterator gives S, or a part of it; it asks of each round that it leaves the blocks O -/
def SeqB (F : Fence) (n : Nat) (P : Program) (g : Nat) (lb : Array Value) (encs : α → Array Value) (O : Nat → Prop) (S Sp : List α → Prop) (N : Nat) (w : World) : Prop :=
 ∀ (l : Nat) (J Jx : List α → World → Prop) (W : World), Below w.heap.size w W → Apart O J → Apart O Jx →
  (∀ pre x W1, J pre W1 → pre.length < N → YieldAt F (n - 1) P l (encs x) W1 fun e W' =>
   (e = .returned (.bool true) ∧ J (pre ++ [x]) W' ∧ ∀ b, O b → W'.heap[b]? = W1.heap[b]?) ∨ (e = .returned (.bool false) ∧ Jx (pre ++ [x]) W')) →
  J [] W →
  CallsIn F n P g (#[.func (.yield l) #[] #[]] ++ lb) W fun e W' => (∃ v, e = .returned v) ∧ ((∃ xs, S xs ∧ J xs W') ∨ (∃ pre, Sp pre ∧ Jx pre W'))
/-- what stands when blocks of the iterator's own, or blocks of no cells behind B, are turned -/
def Off (O : Nat → Prop) (B : Nat) (I : List α → World → Prop) : Prop :=
 ∀ s X Y row, I s X → X.grownBy Y row → (∀ r, row = some r → O r ∨ (B ≤ r ∧ ∃ o : Obj, X.heap[r]? = some o ∧ o.isCells = false)) → I s Y
/-- how a round may be left -/
def left (B : Nat) (O : Nat → Prop) (I Ix : List α → World → Prop) (xs : List α) (W : World) : Exit → Act → World → Prop
 | .normal, _, W' => KeepsFrom B W W' ∧ (∀ b, O b → W'.heap[b]? = W.heap[b]?) ∧ I xs W'
 | .ret, _, W' => KeepsFrom B W W' ∧ Ix xs W'
 | _, _, _ => False
theorem range_own {g : Operand} {ps : Array Tmp} {assign body : Code} {Q : Exit → Act → World → Prop} {a : Act} {w : World}
 (hro : F.round = none) (h1 : 1 ≤ n) {gf : Nat} {lb : Array Value} (hg : a.eval g = .func (.func gf) #[] lb) (hFg : F.fn gf) (eg : ∀ args w, (callFunc gf args).run P w = .ok (.enter gf args) w)
 {encs : α → Array Value} {O : Nat → Prop} {S Sp : List α → Prop} {N : Nat} (hO : ∀ b, O b → b < w.heap.size) (hseq : SeqB F (n - 1) P gf lb encs O S Sp N w) (hps : ∀ x, (encs x).size = ps.size)
 (I Ix : List α → World → Prop) (hI : Off O w.heap.size I) (hIx : Off O w.heap.size Ix) (h0 : I [] w) (a₁ : α → Act)
 (hassign : ∀ (l : Nat) (x : α) (W : World) (K : Act → World → Prop), K (a₁ x) W →
  assign.wpIn (F.inRound l) (n - 1 - 1) P (Exit.then K (fun _ _ _ => False)) { tmps := (ps.zip (encs x)).foldl (fun t (p, v) => t.setIfInBounds p v) a.tmps, defers := [] } W)
 (hbody : ∀ (l : Nat) (pre : List α) (x : α) (W : World), I pre W → pre.length < N → body.wpIn (F.inRound l) (n - 1 - 1) P (left w.heap.size O I Ix (pre ++ [x]) W) (a₁ x) W)
 (hdone : ∀ (D : Nat) (xs : List α) (W : World), w.heap.size ≤ D → S xs → I xs W → W.heap[D]? = some (.deferred (some [])) → Q .normal { a with defers := { target := .collected D, args := #[] } :: a.defers } W)
 (hstop : ∀ (D : Nat) (pre : List α) (W : World), w.heap.size ≤ D → Sp pre → Ix pre W → W.heap[D]? = some (.deferred (some [])) → Code.ret.wpIn F n P Q { a with defers := { target := .collected D, args := #[] } :: a.defers } W) :
 (Code.rangeFunc g ps assign body).wpIn F n P Q a w := by
 refine wpIn_rangeFunc fun fn hfn => ?_
 rw [hro]
 obtain ⟨R, hR⟩ : ∃ R : LoopState → Option Code → Loop, R = fun st pe => { state := st, pending := pe, fn := fn, tmps := a.tmps, params := ps, assign := assign, body := body, defers := w.heap.size } := ⟨_, rfl⟩
 have hb0 : Below w.heap.size w ((w.alloc (.deferred (some []))).alloc (.loop (R .ready none))) := ((Below.refl _ w).alloc (Nat.le_refl _) _).alloc (by simp) _
 have hL0 : ((w.alloc (.deferred (some []))).alloc (.loop (R .ready none))).heap[w.heap.size + 1]? = some (.loop (R .ready none)) := by
  have := World.alloc_heap_new (w.alloc (.deferred (some []))) (.loop (R .ready none)); rwa [World.size_alloc] at this
 have hD0 : ((w.alloc (.deferred (some []))).alloc (.loop (R .ready none))).heap[w.heap.size]? = some (.deferred (some [])) := (Below.heap_alloc _ _ _ (by simp)).trans (World.alloc_heap_new w _)
 have hI0 : I [] ((w.alloc (.deferred (some []))).alloc (.loop (R .ready none))) :=
  hI _ _ _ none (hI _ _ _ none h0 (World.grownBy_alloc w _ none) (fun r e => by cases e)) (World.grownBy_alloc _ _ none) (fun r e => by cases e)
 have hent := run_enterLoop_outer (P := P) (w := w) fn a.tmps ps assign body
 rw [show (Loop.mk .ready none fn a.tmps ps assign body w.heap.size) = R .ready none by rw [hR]] at hent
 generalize (w.alloc (.deferred (some []))).alloc (.loop (R .ready none)) = W1 at *
 -- a step of the iterator leaves the two blocks of the loop
 have keep : ∀ {A B : World} {row : Option Nat} {k : Nat} {o : Obj}, w.heap.size ≤ k → A.heap[k]? = some o → A.grownBy B row → (∀ r, row = some r → O r) → B.heap[k]? = some o := fun hk ho hgr hr =>
  (hgr.block _ (Array.getElem?_eq_some_iff.1 ho).1 (fun e => by have := hO _ (hr _ e.symm); omega)).trans ho
 refine ⟨w.heap.size + 1, [{ target := .collected w.heap.size, args := #[] }], W1, { target := .fn (.func gf) lb, args := #[.func (.yield (w.heap.size + 1)) #[] #[]] }, W1, gf,
  #[.func (.yield (w.heap.size + 1)) #[] #[]] ++ lb, W1, hent, ?_, ?_, ?_, fun _ => h1, ?_⟩
 ·simp only [resolve, hg]
  simp [go_sem]
 ·intro f' hf'
  simp [Target.leads] at hf'
  subst hf'
  exact hFg
 ·simp [invoke, go_sem, eg]
 ·refine (hseq (w.heap.size + 1)
   (fun pre W => I pre W ∧ W.heap[w.heap.size + 1]? = some (.loop (R .ready none)) ∧ W.heap[w.heap.size]? = some (.deferred (some [])))
   (fun pre W => Ix pre W ∧ W.heap[w.heap.size + 1]? = some (.loop (R .done (some .ret))) ∧ W.heap[w.heap.size]? = some (.deferred (some [])))
   W1 hb0 (fun s A B row hs hgr hr => ⟨hI s A B row hs.1 hgr (fun r e => .inl (hr r e)), keep (by omega) hs.2.1 hgr hr, keep (Nat.le_refl _) hs.2.2 hgr hr⟩)
   (fun s A B row hs hgr hr => ⟨hIx s A B row hs.1 hgr (fun r e => .inl (hr r e)), keep (by omega) hs.2.1 hgr hr, keep (Nat.le_refl _) hs.2.2 hgr hr⟩)
   ?_ ⟨hI0, hL0, hD0⟩).mono ?_
  ·rintro pre x W ⟨hi, hl, hd⟩ hlen
   have hlt : w.heap.size + 1 < W.heap.size := (Array.getElem?_eq_some_iff.1 hl).1
   have hy := run_yield (P := P) (args := encs x) hl (by rw [hR]; exact hps x)
   rw [hR] at hy
   refine ⟨fn, _, assign, body, hy, roundIn_of_wpIn hfn (hassign _ x W _ ⟨_, run_beginRound hl (by rw [hR]), ?_⟩)⟩
   have hl2 : (W.putObj (w.heap.size + 1) (.loop { R .ready none with state := .busy })).heap[w.heap.size + 1]? = some (.loop { R .ready none with state := .busy }) := World.putObj_heap_same hlt
   have hd2 : (W.putObj (w.heap.size + 1) (.loop { R .ready none with state := .busy })).heap[w.heap.size]? = some (.deferred (some [])) := (World.putObj_heap_other (by omega)).trans hd
   have hi2 : I pre (W.putObj (w.heap.size + 1) (.loop { R .ready none with state := .busy })) :=
    hI _ _ _ (some (w.heap.size + 1)) hi (grownBy_putObj' W _ _) (fun r e => by cases e; exact .inr ⟨by omega, _, hl, rfl⟩)
   have ho2 : ∀ b, O b → (W.putObj (w.heap.size + 1) (.loop { R .ready none with state := .busy })).heap[b]? = W.heap[b]? := fun b hb => World.putObj_heap_other (by have := hO b hb; omega)
   generalize W.putObj (w.heap.size + 1) (.loop { R .ready none with state := .busy }) = W2 at *
   refine wpIn_mono (hbody (w.heap.size + 1) pre x W2 hi2 hlen) ?_
   rintro e a3 W3 hp
   cases e with
   | normal =>
    obtain ⟨hk, hob, hi3⟩ := hp
    have hl3 := hk.same _ _ (by omega) hl2 rfl
    have hd3 := hk.same _ _ (Nat.le_refl _) hd2 rfl
    have hend := run_endRound (P := P) none hl3
    refine ⟨_, _, hend, .inl ⟨rfl, ⟨hI _ _ _ (some (w.heap.size + 1)) hi3 (grownBy_putObj' W3 _ _) (fun r e => by cases e; exact .inr ⟨by omega, _, hl3, rfl⟩), ?_, ?_⟩, fun b hb => ?_⟩⟩
    ·rw [World.putObj_heap_same (Array.getElem?_eq_some_iff.1 hl3).1, hR]
     rfl
    ·exact (World.putObj_heap_other (by omega)).trans hd3
    ·exact (World.putObj_heap_other (by have := hO b hb; omega)).trans ((hob b hb).trans (ho2 b hb))
   | ret =>
    obtain ⟨hk, hi3⟩ := hp
    have hl3 := hk.same _ _ (by omega) hl2 rfl
    have hd3 := hk.same _ _ (Nat.le_refl _) hd2 rfl
    have hend := run_endRound (P := P) (some .ret) hl3
    refine ⟨_, _, hend, .inr ⟨rfl, hIx _ _ _ (some (w.heap.size + 1)) hi3 (grownBy_putObj' W3 _ _) (fun r e => by cases e; exact .inr ⟨by omega, _, hl3, rfl⟩), ?_, ?_⟩⟩
    ·rw [World.putObj_heap_same (Array.getElem?_eq_some_iff.1 hl3).1, hR]
     rfl
    ·exact (World.putObj_heap_other (by omega)).trans hd3
   | exit id => exact hp.elim
   | goto t => exact hp.elim
   | panic ch => exact hp.elim
   | outgrown => exact hp.elim
  ·rintro e W2 ⟨⟨v, rfl⟩, (⟨xs, hS, hi, hl, hd⟩ | ⟨pre, hSp, hi, hl, hd⟩)⟩
   ·have hend := run_endLoop (P := P) hl (by rw [hR]; simp)
    refine ⟨_, _, hend, ?_⟩
    rw [hR]
    exact hdone _ xs _ (Nat.le_refl _) hS (hI _ _ _ (some (w.heap.size + 1)) hi (grownBy_putObj' W2 _ _) (fun r e => by cases e; exact .inr ⟨by omega, _, hl, rfl⟩)) ((World.putObj_heap_other (by omega)).trans hd)
   ·have hend := run_endLoop (P := P) hl (by rw [hR]; simp)
    refine ⟨_, _, hend, ?_⟩
    rw [hR]
    exact hstop _ pre _ (Nat.le_refl _) hSp (hIx _ _ _ (some (w.heap.size + 1)) hi (grownBy_putObj' W2 _ _) (fun r e => by cases e; exact .inr ⟨by omega, _, hl, rfl⟩)) ((World.putObj_heap_other (by omega)).trans hd)
end Go.Proofs.YtndjcmclmhoigaaGreatDoor
namespace Go.Proofs.YtndjcmclmhoigaaGreatDoor
open Go.RowKit Go.Shelf
set_option maxRecDepth 100000
attribute [local go_sem] Oper.semAt_some

variable {w W : World} {l rest : List UInt8}
/-- a text is cut at its first comma, or has none -/
theorem cut_first (rest : List UInt8) : (Lib.indexByte rest 44 = -1 ∧ cut44 rest = [rest]) ∨ (∃ i : Nat, Lib.indexByte rest 44 = (i : Int) ∧ i < rest.length ∧ cut44 rest = rest.take i :: cut44 (rest.drop (i + 1))) := by
 have hge := Lib.indexByte_ge rest 44
 by_cases h : Lib.indexByte rest 44 = -1
 ·refine .inl ⟨h, cut44_no fun hm => ?_⟩
  obtain ⟨k, hk, e⟩ := List.mem_iff_getElem.1 hm
  exact Lib.indexByte_none h k (by rw [List.getElem?_eq_getElem hk, e])
 ·obtain ⟨i, hi⟩ : ∃ i : Nat, Lib.indexByte rest 44 = (i : Int) := ⟨(Lib.indexByte rest 44).toNat, by omega⟩
  obtain ⟨h1, h2⟩ := Lib.indexByte_some hi
  obtain ⟨hlt, he⟩ := List.getElem?_eq_some_iff.1 h1
  refine .inr ⟨i, hi, hlt, ?_⟩
  have hno : (44 : UInt8) ∉ rest.take i := fun hm => by
   obtain ⟨k, hk, e⟩ := List.mem_iff_getElem.1 hm
   have hk2 : k < i := by rw [List.length_take] at hk; omega
   rw [List.getElem_take] at e
   exact h2 k hk2 (by rw [List.getElem?_eq_getElem (by omega), e])
  have e2 : rest = rest.take i ++ 44 :: rest.drop (i + 1) := by
   conv => lhs; rw [← List.take_append_drop i rest]
   rw [List.drop_eq_getElem_cons hlt, he]
  conv => lhs; rw [e2]
  exact cut44_at hno
/-- how much of a text is left in a block -/
def lenBox (W : World) (b : Nat) : Nat := match W.cell? ⟨b, 0, none⟩ with | some (.string s) => s.size | _ => 0
theorem lenBox_is {b : Nat} {t : TypeId} {x : List UInt8} (h : Boxed W b t (.string (bs x))) : lenBox W b = x.length := by
 unfold lenBox
 rw [h.cell]
 exact bs_size x
theorem boxed_same {b : Nat} {t : TypeId} {v : Value} {W' : World} (h : Boxed W b t v) (e : W'.heap[b]? = W.heap[b]?) : Boxed W' b t v := e.trans h
/-- the iterator's own blocks -/
def Own3 (Bs Bp Bq : Nat) (b : Nat) : Prop := b = Bs ∨ b = Bp ∨ b = Bq
set_option maxHeartbeats 4000000 in
theorem split1_in (n : Nat) (hn : 2 ≤ n) (lp Bs Bp Bq : Nat) (h12 : Bs ≠ Bp) (h13 : Bs ≠ Bq) {β : Type} (f : β → List UInt8) (L : List β) (hL : L.map f = cut44 l) (hl : l.length ≤ 1000000) (J Jx : List β → World → Prop) (hJa : Apart (Own3 Bs Bp Bq) J)
 (hY : ∀ pre x W, J pre W → pre.length < L.length → YieldAt Fence.wide (n - 1) Tryz.prog lp #[.string (bs (f x))] W fun e W' =>
  (e = .returned (.bool true) ∧ J (pre ++ [x]) W' ∧ ∀ b, Own3 Bs Bp Bq b → W'.heap[b]? = W.heap[b]?) ∨ (e = .returned (.bool false) ∧ Jx (pre ++ [x]) W'))
 (W : World) (hBs : Boxed W Bs 9 (.string (bs l))) (hBp : Boxed W Bp 9 (.string (bs [44]))) (hBq : Boxed W Bq 3 (.int .i64 0)) (h0 : J [] W) :
 CallsIn Fence.wide n Tryz.prog 168 #[.func (.yield lp) #[] #[], .pointer (some ⟨Bp, 0, none⟩), .pointer (some ⟨Bs, 0, none⟩), .pointer (some ⟨Bq, 0, none⟩)] W fun e W' => (∃ v, e = .returned v) ∧
  ((∃ ys, ys = L ∧ J ys W') ∨ (∃ pre, pre <+: L ∧ Jx pre W')) := by
 have HYs := Kp.mk hY
 have HLs := Kp.mk hL
 have HJa := Kp.mk hJa
 have HBp := Kp.mk hBp
 have HBq := Kp.mk hBq
 have HBs := Kp.mk hBs
 have HJ := Kp.mk h0
 have h1 : 1 ≤ n := by omega
 have hz : (bs [44]).size = 1 := rfl
 clear hY hJa h0 hBs hL
 have kp := HBp.out.cell
 clear hBp hBq
 refine callsIn_of_wp Tryz.func168 rfl trivial ?_ rfl
 simp only [Tryz.ntmps168, List.size_toArray, List.length_cons, List.length_nil, Nat.reduceAdd, Nat.reduceSub, Array.replicate_succ, Array.replicate_zero, List.push_toArray, List.append_toArray, List.nil_append, List.cons_append]
 gi_wp2
 clear kp
 gi_loopw [7] (fun _ wr => ∃ (pre suf : List β) (rest : List UInt8), Kp (L = pre ++ suf) ∧ Kp (suf.map f = cut44 rest) ∧ Kp (rest.length ≤ l.length) ∧ Kp (Boxed wr Bs 9 (.string (bs rest))) ∧ Kp (Boxed wr Bp 9 (.string (bs [44]))) ∧ Kp (Boxed wr Bq 3 (.int .i64 0)) ∧ Kp (J pre wr)) (fun _ wr => lenBox wr Bs)
 case atStart => exact ⟨[], L, l, Kp.mk rfl, HLs, Kp.mk (Nat.le_refl _), HBs, HBp, HBq, HJ⟩
 case round =>
  clear HBs HBp HBq HJ
  obtain ⟨pre, suf, rest, HC, HF, HL, HBs, HBp, HBq, HJ⟩ := hrel
  have ks := HBs.out.cell
  have kp := HBp.out.cell
  have kq := HBq.out.cell
  have kf := HBs.out.frozen
  rcases cut_first rest with ⟨hi, hc⟩ | ⟨i, hi, hlt, hc⟩
  ·have ri := Tryz.strings_Index_one (bs rest) 44
   have e0 : Lib.indexByte (bs rest).data.toList 44 = -1 := hi
   rw [e0] at ri
   have RI := Kp.mk ri
   obtain ⟨x, rfl, hx⟩ : ∃ x, suf = [x] ∧ f x = rest := by
    have h := HF.out
    rw [hc] at h
    match suf, h with
    | [x], h => simp at h; exact ⟨x, rfl, h⟩
   have hlen : pre.length < L.length := by rw [HC.out, List.length_append]; simp
   obtain ⟨fn, tmps, assign, body, hy, hR⟩ := HYs.out pre x wr HJ.out hlen
   rw [hx] at hy
   have HR := Kp.mk hR
   clear hR hi hc ri e0 hlen hx
   gi_wp2_with (refine ⟨trivial, ?_⟩; gi_at_call 170; refine (callsIn_wide.2 (RI.out _)).mono ?_; rintro e w' ⟨rfl, rfl⟩)
   refine HR.out.mono ?_
   rintro e W3 (⟨rfl, hJ3, _⟩ | ⟨rfl, hJx3⟩)
   ·have HJ3 := Kp.mk hJ3
    clear hJ3
    gi_wp2
    go_end0
    exact ⟨⟨_, rfl⟩, .inl ⟨_, HC.out.symm, HJ3.out⟩⟩
   ·have HJ3 := Kp.mk hJx3
    clear hJx3
    gi_wp2
    go_end0
    exact ⟨⟨_, rfl⟩, .inr ⟨_, by rw [HC.out]; exact List.prefix_refl _, HJ3.out⟩⟩
  ·have ri := Tryz.strings_Index_one (bs rest) 44
   have e0 : Lib.indexByte (bs rest).data.toList 44 = (i : Int) := hi
   rw [e0] at ri
   have RI := Kp.mk ri
   obtain ⟨x, suf, rfl, hx, hsu⟩ : ∃ x t, suf = x :: t ∧ f x = rest.take i ∧ t.map f = cut44 (rest.drop (i + 1)) := by
    have h := HF.out
    rw [hc] at h
    match suf, h with
    | x :: t, h => simp at h; exact ⟨x, t, rfl, h.1, by simpa using h.2⟩
   have hlen : pre.length < L.length := by rw [HC.out, List.length_append]; simp
   have HC : Kp (L = pre ++ [x] ++ suf) := Kp.mk (by rw [HC.out]; simp)
   have HF := Kp.mk hsu
   obtain ⟨fn, tmps, assign, body, hy, hR⟩ := HYs.out pre x wr HJ.out hlen
   rw [hx] at hy
   have HR := Kp.mk hR
   have hrl := HL.out
   have t1 : decide ((i : Int) < 0) = false := decide_eq_false (by omega)
   have t2 : ¬ (i : Int) < 0 := by omega
   have a1 : IntKind.i64.wrap (i : Int) = (i : Int) := IntWalk.i64_in _ (by omega)
   have a2 : IntKind.i64.wrap ((i : Int) + 1) = ((i + 1 : Nat) : Int) := by rw [show (i : Int) + 1 = ((i + 1 : Nat) : Int) by omega]; exact IntWalk.i64_in _ (by omega)
   have s1 := fun w => to_bs (l := rest) (i := i) (by omega) w
   have HLT := Kp.mk hlt
   have HM := Kp.mk (lenBox_is HBs.out)
   clear hR hi hc ri e0 hlen hrl hlt hx hsu
   gi_wp2_with (refine ⟨trivial, ?_⟩; gi_at_call 170; refine (callsIn_wide.2 (RI.out _)).mono ?_; rintro e w' ⟨rfl, rfl⟩)
   refine HR.out.mono ?_
   clear hy ks kp kq kf s1 HR RI
   rintro e W3 (⟨rfl, hJ3, hk3⟩ | ⟨rfl, hJx3⟩)
   ·have HJ3 := Kp.mk hJ3
    have HBs := Kp.mk (boxed_same HBs.out (hk3 Bs (.inl rfl)))
    have HBp := Kp.mk (boxed_same HBp.out (hk3 Bp (.inr (.inl rfl))))
    have HBq := Kp.mk (boxed_same HBq.out (hk3 Bq (.inr (.inr rfl))))
    clear hJ3 hk3
    have ks := HBs.out.cell
    have kp := HBp.out.cell
    have kf := HBs.out.frozen
    have hsz : (bs rest).size = rest.length := bs_size rest
    have e2 : (bs rest).extract (i + 1) rest.length = bs (rest.drop (i + 1)) := by rw [ext_bs, List.take_length]
    have b3 : (i : Int) + 1 ≤ (rest.length : Int) := by have := HLT.out; omega
    have b4 : 0 ≤ (i : Int) + 1 := by omega
    gi_wp2
    go_roundw
    case rel => exact ⟨pre ++ [x], suf, rest.drop (i + 1), HC, HF, Kp.mk (by have := HL.out; rw [List.length_drop]; omega), Kp.mk (HBs.out.set _), Kp.mk (HBp.out.other (fun e => h12 e.symm) _), Kp.mk (HBq.out.other (fun e => h13 e.symm) _), Kp.mk (HJa.out _ _ _ _ HJ3.out (grownBy_setCell' W3 Bs _) (fun r e => by cases e; exact .inl rfl))⟩
    case measure =>
     rw [lenBox_is (HBs.out.set (.string (bs (rest.drop (i + 1))))), HM.out]
     have := HLT.out
     rw [List.length_drop]
     omega
   ·have HJ3 := Kp.mk hJx3
    clear hJx3
    gi_wp2
    refine bodyPost_ret (results_none rfl _ _ _) rfl ?_
    exact ⟨⟨_, rfl⟩, .inr ⟨_, by rw [HC.out]; exact List.prefix_append _ _, HJ3.out⟩⟩
/-- strings.SplitSeq at a comma: three blocks, and the function value that holds them -/
def splitV (k : Nat) : Value := .func (.func 168) #[] #[.pointer (some ⟨k + 1, 0, none⟩), .pointer (some ⟨k, 0, none⟩), .pointer (some ⟨k + 1 + 1, 0, none⟩)]
def splitW (w : World) (s : ByteArray) : World := ((w.alloc (.cells #[.string s] 9)).alloc (.cells #[.string (bs [44])] 9)).alloc (.cells #[.int .i64 0] 3)
set_option maxHeartbeats 1000000 in
theorem dSplit1_is (s : ByteArray) (w : World) :
 Calls Tryz.prog 155 #[.string s, .string (bs [44]), .int .i64 0] w fun e w' => e = .returned (splitV w.heap.size) ∧ w' = splitW w s := by
 go_enter Tryz.func155, Tryz.ntmps155
 go_wp2_with fail
 go_ret
 exact ⟨rfl, rfl⟩
set_option maxHeartbeats 1000000 in
theorem dSplit_is (s : ByteArray) (w : World) :
 Calls Tryz.prog 125 #[.string s, .string (bs [44])] w fun e w' => e = .returned (splitV w.heap.size) ∧ w' = splitW w s := by
 have r1 := Kp.mk (dSplit1_is s w)
 go_enter Tryz.func125, Tryz.ntmps125
 go_wp2_with fail
 refine r1.out.mono ?_
 rintro e v ⟨rfl, rfl⟩
 go_wp2_with fail
 go_ret
 exact ⟨rfl, rfl⟩
/-- what a range over it is handed -/
theorem split_seq {β : Type} (f : β → List UInt8) (L : List β) (hL : L.map f = cut44 l) (hl : l.length ≤ 1000000) (n : Nat) (hn : 2 ≤ n) (k : Nat) (w : World)
 (hBs : Boxed w k 9 (.string (bs l))) (hBp : Boxed w (k + 1) 9 (.string (bs [44]))) (hBq : Boxed w (k + 1 + 1) 3 (.int .i64 0)) :
 SeqB Fence.wide n Tryz.prog 168 #[.pointer (some ⟨k + 1, 0, none⟩), .pointer (some ⟨k, 0, none⟩), .pointer (some ⟨k + 1 + 1, 0, none⟩)] (fun x : β => #[.string (bs (f x))]) (Own3 k (k + 1) (k + 1 + 1)) (fun ys => ys = L) (fun pre => pre <+: L) L.length w := fun lp J Jx W hW hJa _ hY h0 =>
 split1_in n hn lp k (k + 1) (k + 1 + 1) (by omega) (by omega) f L hL hl J Jx hJa hY W (boxed_same hBs (hW.block _ hBs.lt)) (boxed_same hBp (hW.block _ hBp.lt)) (boxed_same hBq (hW.block _ hBq.lt)) h0
end Go.Proofs.YtndjcmclmhoigaaGreatDoor
