/-
 DERIVED. THE LIBRARY's SORT (slices.SortFunc) laid at lists of runs: the table of numbers, the dump's own facts. (As tools/lay-plain.mjs prints it.)
 DERIVED. THE LIBRARY's SORT of a list of runs by runs.Compare: the same runs, ascending.
 DERIVED. CONTRACTS of package runsets (the library's functions that it calls): the sort of a list that is empty, SortedFunc. Written by mkrsd11.py.
-/
import Derived.Shelf.SlSortCmp.WholeK
import Derived.Test.YtndjcmclmhoigaaGreatDoorProg
import Derived.Test.YtndjcmclmhoigaaGreatDoorPC5
import Derived.Test.YtndjcmclmhoigaaGreatDoorPA4
import Derived.Test.YtndjcmclmhoigaaGreatDoorPC4
namespace Go.Proofs
open Go.Shelf

def Tryz.sortRn_ren : Go.Shelf.Ren := ⟨fun | 6 => 144 | 15 => 166 | 14 => 165 | 28 => 190 | 29 => 191 | 20 => 182 | 21 => 183 | 22 => 184 | 23 => 185 | 24 => 186 | 25 => 187 | 26 => 188 | 27 => 189 | 46 => 215 | 47 => 216 | 48 => 217 | 49 => 218 | 50 => 219 | 57 => 233 | n => n, fun | 22 => 60 | 24 => 26 | 25 => 30 | 3 => 3 | 39 => 197 | 0 => 0 | 53 => 214 | 55 => 216 | 4 => 4 | 46 => 207 | 45 => 206 | 50 => 211 | 5 => 5 | 9 => 9 | 66 => 240 | 70 => 244 | 76 => 262 | 77 => 263 | n => n, fun | n => n⟩
theorem Tryz.sortRn : Go.Proofs.SlLaysF0.n6 Tryz.prog Tryz.sortRn_ren := {
 mixed := by kernel_rfl
 f6 := ⟨Tryz.f144.name, by decide, Tryz.func144.trans (congrArg some (by kernel_rfl))⟩
 f14 := ⟨Tryz.f165.name, by decide, Tryz.func165.trans (congrArg some (by kernel_rfl))⟩
 f15 := Tryz.func166.trans (congrArg some (by kernel_rfl))
 f20 := ⟨Tryz.f182.name, by decide, Tryz.func182.trans (congrArg some (by kernel_rfl))⟩
 f21 := ⟨Tryz.f183.name, by decide, Tryz.func183.trans (congrArg some (by kernel_rfl))⟩
 f22 := ⟨Tryz.f184.name, by decide, Tryz.func184.trans (congrArg some (by kernel_rfl))⟩
 f23 := ⟨Tryz.f185.name, by decide, Tryz.func185.trans (congrArg some (by kernel_rfl))⟩
 f24 := ⟨Tryz.f186.name, by decide, Tryz.func186.trans (congrArg some (by kernel_rfl))⟩
 f25 := ⟨Tryz.f187.name, by decide, Tryz.func187.trans (congrArg some (by kernel_rfl))⟩
 f26 := ⟨Tryz.f188.name, by decide, Tryz.func188.trans (congrArg some (by kernel_rfl))⟩
 f27 := ⟨Tryz.f189.name, by decide, Tryz.func189.trans (congrArg some (by kernel_rfl))⟩
 f28 := Tryz.func190.trans (congrArg some (by kernel_rfl))
 f29 := Tryz.func191.trans (congrArg some (by kernel_rfl))
 f46 := ⟨Tryz.f215.name, by decide, Tryz.func215.trans (congrArg some (by kernel_rfl))⟩
 f47 := Tryz.func216.trans (congrArg some (by kernel_rfl))
 f48 := Tryz.func217.trans (congrArg some (by kernel_rfl))
 f49 := ⟨Tryz.f218.name, by decide, Tryz.func218.trans (congrArg some (by kernel_rfl))⟩
 f50 := ⟨Tryz.f219.name, by decide, Tryz.func219.trans (congrArg some (by kernel_rfl))⟩
 f57 := ⟨Tryz.f233.name, by decide, Tryz.func233.trans (congrArg some (by kernel_rfl))⟩
 t0 := Tryz.underlying0
 a0 := Tryz.isAgg0
 z0 := Tryz.sizeOf0
 v0 := Tryz.zeroValue0
 t3 := Tryz.underlying3
 a3 := Tryz.isAgg3
 z3 := Tryz.sizeOf3
 v3 := Tryz.zeroValue3
 t4 := Tryz.underlying4
 a4 := Tryz.isAgg4
 z4 := Tryz.sizeOf4
 v4 := Tryz.zeroValue4
 t5 := Tryz.underlying5
 a5 := Tryz.isAgg5
 z5 := Tryz.sizeOf5
 v5 := Tryz.zeroValue5
 t9 := Tryz.underlying9
 a9 := Tryz.isAgg9
 z9 := Tryz.sizeOf9
 v9 := Tryz.zeroValue9
 t22 := Tryz.underlying60
 a22 := Tryz.isAgg60
 z22 := Tryz.sizeOf60
 v22 := Tryz.zeroValue60
 t25 := Tryz.underlying30
 a25 := Tryz.isAgg30
 z25 := Tryz.sizeOf30
 v25 := Tryz.zeroValue30
 t39 := Tryz.underlying197
 a39 := Tryz.isAgg197
 z39 := Tryz.sizeOf197
 v39 := Tryz.zeroValue197
 t45 := Tryz.underlying206
 a45 := Tryz.isAgg206
 z45 := Tryz.sizeOf206
 v45 := Tryz.zeroValue206
 t46 := Tryz.underlying207
 a46 := Tryz.isAgg207
 z46 := Tryz.sizeOf207
 v46 := Tryz.zeroValue207
 t50 := Tryz.underlying211
 a50 := Tryz.isAgg211
 z50 := Tryz.sizeOf211
 v50 := Tryz.zeroValue211
 t53 := Tryz.underlying214
 a53 := Tryz.isAgg214
 z53 := Tryz.sizeOf214
 v53 := Tryz.zeroValue214
 t55 := Tryz.underlying216
 a55 := Tryz.isAgg216
 z55 := Tryz.sizeOf216
 v55 := Tryz.zeroValue216
 t66 := Tryz.underlying240
 a66 := Tryz.isAgg240
 z66 := Tryz.sizeOf240
 v66 := Tryz.zeroValue240
 t70 := Tryz.underlying244
 a70 := Tryz.isAgg244
 z70 := Tryz.sizeOf244
 v70 := Tryz.zeroValue244
 t76 := Tryz.underlying262
 a76 := Tryz.isAgg262
 z76 := Tryz.sizeOf262
 v76 := Tryz.zeroValue262
 t77 := Tryz.underlying263
 a77 := Tryz.isAgg263
 z77 := Tryz.sizeOf263
 v77 := Tryz.zeroValue263 }
end Go.Proofs
namespace Go.Proofs.YtndjcmclmhoigaaGreatDoor
open Go.RowKit
set_option maxRecDepth 100000

instance inhRnS : Inhabited Rn := ⟨zeroR⟩
theorem cmpR_lex (a b : Rn) : cmpR a b ≤ 0 ↔ cmpE a.f a.d b.f b.d ≤ 0 ∧ (cmpE a.f a.d b.f b.d = 0 → cmpE a.g a.e b.g b.e ≤ 0) := by
 unfold cmpR
 by_cases h : cmpE a.f a.d b.f b.d = 0
 ·rw [if_pos h]; omega
 ·rw [if_neg h]; omega
theorem cmpR_tr (a b c : Rn) (h1 : cmpR a b ≤ 0) (h2 : cmpR b c ≤ 0) : cmpR a c ≤ 0 := by
 rw [cmpR_lex] at *
 have x1 := cmpE_zero a.f a.d b.f b.d
 have x2 := cmpE_zero b.f b.d c.f c.d
 have x3 := cmpE_zero a.f a.d c.f c.d
 have y1 := cmpE_le a.f a.d b.f b.d
 have y2 := cmpE_le b.f b.d c.f c.d
 have y3 := cmpE_le a.f a.d c.f c.d
 have z1 := cmpE_le a.g a.e b.g b.e
 have z2 := cmpE_le b.g b.e c.g c.e
 have z3 := cmpE_le a.g a.e c.g c.e
 omega
theorem swoR : Go.Sort.SWO (ltOf cmpR) where
 irrefl x := by
  have := (cmpR_zero x x).2 rfl
  unfold ltOf; rw [decide_eq_false_iff_not]; omega
 trans x y z h1 h2 := by
  unfold ltOf at *
  rw [decide_eq_true_iff] at *
  have h3 := cmpR_tr x y z (by omega) (by omega)
  rcases Int.lt_or_eq_of_le h3 with h | h
  ·exact h
  ·have e := (cmpR_zero x z).1 h
   subst e
   have := cmpR_swap x y
   omega
 ntrans x y z h1 h2 := by
  unfold ltOf at *
  rw [decide_eq_false_iff_not] at *
  have a1 := cmpR_swap x y
  have a2 := cmpR_swap y z
  have a3 := cmpR_swap x z
  have := cmpR_tr z y x (by omega) (by omega)
  omega
theorem cellsR_len (x : Rn) : (cellsR x).length = 4 := rfl
theorem cellsR_one (x : Rn) : ∀ v ∈ cellsR x, v.oneCell' = true := by
 intro v h
 unfold cellsR at h
 simp at h
 rcases h with rfl | rfl | rfl | rfl <;> rfl
theorem cmpLaysR (g o n : Nat) (w : World) : CmpLays Tryz.prog 16 #[] cellsR 4 cmpR g o n w :=
 fun _ _ _ _ x y => (dCmpR_g (a := x) (b := y) rfl _).mono fun _ _ h => ⟨h.1, h.2.grow⟩
variable {u w W W' : World} {l m : List Rn} {g cap : Nat} {v : Value}
theorem below_sort {B blk off n : Nat} {d : Array Rn} {os : Array Obj} (w : World) (hB : B ≤ blk) (hw : B ≤ w.heap.size) : Below B w (sortWorldK cellsR 4 w blk off n d os) := by
 refine ⟨rfl, rfl, rfl, ?_, fun k hk => ?_⟩
 ·exact size_sortWorldK_c cellsR 4 w blk off n d os
 ·show ((Go.Sort.mapBlock (Go.Sort.ahead w n) blk (Go.Sort.putCells id off (Go.Sort.flatK cellsR 4 d))).heap ++ os)[k]? = w.heap[k]?
  have hs : (Go.Sort.mapBlock (Go.Sort.ahead w n) blk (Go.Sort.putCells id off (Go.Sort.flatK cellsR 4 d))).heap.size = w.heap.size := by
   show (Go.Sort.putRow id (Go.Sort.ahead w n) blk off (Go.Sort.flatK cellsR 4 d)).heap.size = _
   rw [Go.Sort.size_putRow]; rfl
  rw [Array.getElem?_append_left (by rw [hs]; omega)]
  show (w.heap.modify blk _)[k]? = _
  rw [Array.getElem?_modify, if_neg (by omega)]
theorem ag_holds (h : Ag u l (.slice (some ⟨g, 0, none⟩) l.length cap) W) : Go.Sort.HoldsK cellsR 4 W g 0 l.toArray := by
 intro j hj
 rw [Go.Sort.size_flatK] at hj
 have hj' : j < l.length * 4 := by simpa using hj
 have hd : j = j / 4 * 4 + j % 4 := by omega
 have hp : j / 4 < l.length := by omega
 have h4 : j % 4 < 4 := Nat.mod_lt _ (by decide)
 obtain ⟨h1, ⟨e, _⟩ | ⟨g2, cap2, cur, e, hb, hh, hc, hm, hs, ht⟩⟩ := h.own
 ·cases e
 ·injection e with e1 _ e3
  injection e1 with e1
  injection e1 with e1
  subst e1 e3
  refine ⟨?_, by rw [Nat.zero_add]; exact frozen_of_row W g _ _ _ hh⟩
  have hv := vL_at (List.getElem?_eq_getElem hp) h4
  rw [← hd] at hv
  rw [Nat.zero_add, h.own.cellAt j (by omega), hv, Go.Sort.get_flatK _ _ _ _ (by simpa using hj')]
  have e4 : (l.toArray)[j / 4]! = l[j / 4] := by rw [getElem!_pos _ _ (by simpa using hp)]; rfl
  rw [e4]
  have e5 : j % 4 < (cellsR l[j / 4]).length := h4
  rw [List.getElem?_eq_getElem e5]
  show some _ = some (cellsR l[j / 4])[j % 4]!
  rw [getElem!_pos (cellsR l[j / 4]) (j % 4) e5]
theorem ag_block (h : Ag u l (.slice (some ⟨g, 0, none⟩) l.length cap) W) : u.heap.size ≤ g ∧ g < W.heap.size := by
 obtain ⟨h1, ⟨e, _⟩ | ⟨g2, cap2, cur, e, hb, hh, hc, hm, hs, ht⟩⟩ := h.own
 ·cases e
 ·injection e with e1 _ e3
  injection e1 with e1
  injection e1 with e1
  subst e1
  exact ⟨hb, (Array.getElem?_eq_some_iff.1 hh).1⟩
/-- the same runs, ascending -/
theorem dSort_is (h : Ag u l (.slice (some ⟨g, 0, none⟩) l.length cap) W) (hn : l.length ≤ 1000000000) :
 Calls Tryz.prog 144 #[.slice (some ⟨g, 0, none⟩) l.length cap, .func (.func 16) #[] #[]] W fun e w' =>
  e = .returned (.tuple #[]) ∧ ∃ m, m.Perm l ∧ m.Pairwise (fun a b => cmpR a b ≤ 0) ∧ Lr u (some ⟨g, 0, none⟩) m w' := by
 have eg : ∀ args w, (callFunc 16 args).run Tryz.prog w = .ok (.enter 16 args) w := enters_of Tryz.func16 (by kernel_rfl) rfl
 obtain ⟨b1, b2⟩ := ag_block h
 have hs : l.toArray.size = l.length := by simp
 have hcon := AnyQ.slices_SortFunc Tryz.sortRn 4 Tryz.isAgg26 Tryz.sizeOf26 cellsR cellsR_len cellsR_one cmpR swoR 16 #[] g 0 cap l.toArray W eg (cmpLaysR g 0 _ W) (ag_holds h) b2 (by rw [hs]; omega)
 change Calls Tryz.prog 144 _ _ _ at hcon
 rw [hs] at hcon
 refine hcon.mono ?_
 rintro e w' ⟨rfl, d', n, os, hp, hso, rfl⟩
 have hsz : d'.size = l.length := by have := hp.1; simpa using this
 refine ⟨rfl, d'.toList, ?_, ?_, ?_⟩
 ·have := hp.2.2
  rw [← hsz, Array.extract_size] at this
  rwa [hsz, ← hs, Array.extract_size] at this
 ·rw [List.pairwise_iff_getElem]
  intro i j hi hj hij
  have := hso i j (Nat.zero_le _) hij (by simpa [hsz] using hj)
  unfold ltOf at this
  rw [decide_eq_false_iff_not] at this
  have e1 : d'[i]! = d'.toList[i] := by rw [getElem!_pos d' i (by simpa using hi)]; simp
  have e2 : d'[j]! = d'.toList[j] := by rw [getElem!_pos d' j (by simpa using hj)]; simp
  rw [e1, e2, cmpR_swap] at this
  omega
 ·have hH := holdsK_sortWorldK_c cellsR 4 W g 0 l.toArray d' n os (ag_holds h) b2 (by rw [hsz, hs])
  have hB := below_sort (n := n) (d := d') (os := os) (off := 0) W b1 h.below.size
  have hlt : g < (sortWorldK cellsR 4 W g 0 n d' os).heap.size := Nat.lt_of_lt_of_le b2 (size_sortWorldK_c cellsR 4 W g 0 n d' os)
  refine ⟨h.below.trans hB, fun p r hp => ⟨g, 0, rfl, hlt, ?_⟩⟩
  have hpl := (List.getElem?_eq_some_iff.1 hp).1
  have hps : p < d'.size := by simpa using hpl
  have e1 : d'[p]! = r := by
   have := (List.getElem?_eq_some_iff.1 hp).2
   rw [getElem!_pos d' p hps, ← this]; simp
  have key : ∀ j : Nat, j < 4 → (sortWorldK cellsR 4 W g 0 n d' os).cell? ⟨g, 0 + p * 4 + j, none⟩ = some ((cellsR r)[j]!) := fun j hj => by
   have hj2 : p * 4 + j < d'.size * 4 := by omega
   have := (hH (p * 4 + j) (by rw [Go.Sort.size_flatK]; exact hj2)).1
   rw [Go.Sort.get_flatK _ _ _ _ hj2, show (p * 4 + j) / 4 = p by omega, show (p * 4 + j) % 4 = j by omega, e1] at this
   rw [show 0 + p * 4 + j = 0 + (p * 4 + j) by omega]
   exact this
  exact ⟨key 0 (by omega), key 1 (by omega), key 2 (by omega), key 3 (by omega)⟩
end Go.Proofs.YtndjcmclmhoigaaGreatDoor
namespace Go.Proofs.YtndjcmclmhoigaaGreatDoor
open Go.RowKit
set_option maxRecDepth 100000

variable {w W : World} {a : Option Addr} {l : List Rn}
set_option maxHeartbeats 2000000 in
theorem insNil_is (p : Nat) (fv : Value) (w : World) :
 Calls Tryz.prog 182 #[.slice none 0 p, .int .i64 0, .int .i64 0, fv] w fun e w' => e = .returned (.tuple #[]) ∧ w' = w := by
 go_enter Tryz.func182, Tryz.ntmps182
 go_wp2_with fail
 refine wp_loop_rounds 1 ?_
 rw [rounds_succ]
 go_wp2_with fail
 go_end0
 exact ⟨rfl, rfl⟩
set_option maxHeartbeats 2000000 in
theorem pdqNil_is (p : Nat) (lim : Int) (fv : Value) (w : World) :
 Calls Tryz.prog 165 #[.slice none 0 p, .int .i64 0, .int .i64 0, .int .i64 lim, fv] w fun e w' => e = .returned (.tuple #[]) ∧ w' = w := by
 have hi := fun W => insNil_is p fv W
 go_enter Tryz.func165, Tryz.ntmps165
 go_wp2_with fail
 refine wp_loop_rounds 1 ?_
 rw [rounds_succ]
 go_wp2_with (go_at_call 182; refine (hi _).mono ?_; rintro e w' ⟨rfl, rfl⟩)
 (try simp only [Exit.inBlock, Exit.then]); refine bodyPost_ret (results_none rfl _ _ _) rfl ?_
 exact ⟨rfl, rfl⟩
set_option maxHeartbeats 2000000 in
theorem sortNil_is (p : Nat) (fv : Value) (w : World) :
 Calls Tryz.prog 144 #[.slice none 0 p, fv] w fun e w' => e = .returned (.tuple #[]) ∧ w' = w := by
 have hp := fun lim W => pdqNil_is p lim fv W
 have hl : ∀ W, Calls Tryz.prog 166 #[.int .u64 0] W fun e w' => e = .returned (.int .i64 (Lib.bitLen 0 : Nat)) ∧ w' = W := fun W => by
  have h := Any.bits_Len (SlLaysF0.n15.bits (P := Tryz.prog) (ρ := Tryz.sortRn_ren) { Tryz.sortRn with }) 0 W (by omega) (by omega)
  exact h
 go_enter Tryz.func144, Tryz.ntmps144
 go_wp2_with (first | (go_at_call 166; refine (hl _).mono ?_; rintro e w' ⟨rfl, rfl⟩) | (go_at_call 165; refine (hp _ _).mono ?_; rintro e w' ⟨rfl, rfl⟩))
 go_end0
 exact ⟨rfl, rfl⟩
/-- the sort of a list of the walk's own, whatever its address -/
theorem sortAny_is {u : World} {v : Value} (h : Ag u l v W) (hn : l.length ≤ 1000000000) :
 ∃ b p, v = .slice b l.length p ∧ l.length ≤ p ∧ Calls Tryz.prog 144 #[.slice b l.length p, .func (.func 16) #[] #[]] W fun e w' =>
  e = .returned (.tuple #[]) ∧ ∃ m, m.Perm l ∧ m.Pairwise (fun a b => cmpR a b ≤ 0) ∧ Lr u b m w' := by
 rcases h.own.2 with ⟨e, h0⟩ | ⟨g, cap, cur, e, _, _, hc, _⟩
 ·obtain rfl := List.length_eq_zero_iff.1 h0
  refine ⟨none, 0, e, Nat.le_refl _, (sortNil_is 0 _ W).mono ?_⟩
  rintro e w' ⟨rfl, rfl⟩
  exact ⟨rfl, [], List.Perm.refl _, List.Pairwise.nil, h.below, fun p r hp => by simp at hp⟩
 ·subst e
  exact ⟨_, cap, rfl, hc, dSort_is h hn⟩
set_option maxHeartbeats 4000000 in
theorem dSorted_is {Bs p : Nat} (hreach : l.length ≤ 1000000) (hBs : Bs < w.heap.size) (hc : w.cell? ⟨Bs, 0, none⟩ = some (.slice a l.length p)) (hL : Lr w a l w) :
 Calls Tryz.prog 106 #[.func (.func 145) #[] #[.pointer (some ⟨Bs, 0, none⟩)], .func (.func 16) #[] #[]] w fun e w' =>
  ∃ b m c, e = .returned (.slice b m.length c) ∧ m.Perm l ∧ m.Pairwise (fun a b => cmpR a b ≤ 0) ∧ Lr w b m w' := by
 have r1 := Kp.mk (dCollect_is (w := w) (a := a) (l := l) (Bs := Bs) (p := p) hreach hBs hc hL)
 have r2 := Kp.mk (fun (v : Value) (W : World) (h : Ag w l v W) => sortAny_is h (by omega))
 have HN := Kp.mk hreach
 clear hreach hBs hc hL
 go_enter Tryz.func106, Tryz.ntmps106
 go_wp2_with fail
 refine r1.out.mono ?_
 rintro e v1 ⟨v, rfl, hA⟩
 obtain ⟨b, c, rfl, hbc, hs⟩ := r2.out v v1 hA
 have R3 := Kp.mk hs
 clear hs hA r1 r2 hbc
 obtain ⟨n, hn⟩ : ∃ n, l.length = n := ⟨_, rfl⟩
 have HL := Kp.mk hn
 rw [hn] at R3 ⊢
 clear hn
 go_wp2_with fail
 refine R3.out.mono ?_
 rintro e v2 ⟨rfl, m, hp, hso, hlr⟩
 have HM := Kp.mk (And.intro hp (And.intro hso hlr))
 clear hp hso hlr
 go_wp2_with fail
 go_ret
 obtain ⟨hp, hso, hlr⟩ := HM.out
 exact ⟨b, m, c, by rw [hp.length_eq, HL.out]; rfl, hp, hso, hlr⟩
end Go.Proofs.YtndjcmclmhoigaaGreatDoor
