/-
 DERIVED. CONTRACT of package ends: Parse: a range over the map of texts, in whatever order.
-/
import Derived.Test.YteddfolhpoikcaaGreatDoorPEnDevT
namespace Go.Proofs.YteddfolhpoikcaaGreatDoor
open Go.RowKit
open Go.ChangeMaps (setBlock)
set_option maxRecDepth 100000

/-- the range under way: the result's block, the map, the iterator -/
structure Ps (w : World) (r it : Nat) (es : Array MapEntry) (seen : Array Nat) (W : World) : Prop where
 row : ERow w w.heap.size 0 0 W
 map : W.heap[r]? = some (.map es 2)
 iter : W.heap[it]? = some (.mapIter (some r) 2 seen 2)
variable {w W W' : World} {r it : Nat} {es : Array MapEntry} {seen : Array Nat}
theorem Ps.lt (h : Ps w r it es seen W) : it < W.heap.size := (Array.getElem?_eq_some_iff.1 h.iter).1
theorem Ps.ltr (h : Ps w r it es seen W) : r < W.heap.size := (Array.getElem?_eq_some_iff.1 h.map).1
theorem Ps.step (h : Ps w r it es seen W) (hb : Below W.heap.size W W') : Ps w r it es seen W' :=
 ⟨h.row.step hb, by rw [hb.block r h.ltr]; exact h.map, by rw [hb.block it h.lt]; exact h.iter⟩
theorem Ps.next (h : Ps w r it es seen W) (hi : w.heap.size < it) (hr : r ≠ it) {w1 : World} (hw : w1 = W ∨ w1 = W.drew) (b : Nat) : Ps w r it es (seen.push b) (setBlock w1 it (.mapIter (some r) 2 (seen.push b) 2)) := by
 have h1 : Ps w r it es seen w1 := by
  rcases hw with rfl | rfl
  ·exact h
  ·exact h.step (Below.refl _ _).drew
 have hh : ∀ k, k ≠ it → (setBlock w1 it (.mapIter (some r) 2 (seen.push b) 2)).heap[k]? = w1.heap[k]? := fun k hk => by simp only [setBlock]; rw [Array.getElem?_setIfInBounds, if_neg (fun e => hk e.symm)]
 have hs : (setBlock w1 it (.mapIter (some r) 2 (seen.push b) 2)).heap.size = w1.heap.size := by simp [setBlock]
 have hb := h1.row.below
 refine ⟨⟨⟨hb.os, hb.tape, hb.output, by rw [hs]; exact hb.size, fun k hk => by rw [hh k (by omega)]; exact hb.block k hk⟩, h1.row.base, by rw [hh _ (by omega)]; exact h1.row.heap⟩, by rw [hh r hr]; exact h1.map, ?_⟩
 simp only [setBlock]
 rw [Array.getElem?_setIfInBounds, if_pos rfl, if_pos h1.lt]
theorem iterSeen_of {m : Option Nat} {b c : Nat} {s : Array Nat} (h : W.heap[it]? = some (.mapIter m b s c)) : W.iterSeen it = s := by
 unfold World.iterSeen
 rw [h]
theorem Tb.old (h : Tb es) : ∀ x ∈ es.toList, x.born < 2 := by
 rcases h with rfl | rfl <;> simp
theorem Tb.nodup (h : Tb es) : (es.toList.map (·.born)).Nodup := by
 rcases h with rfl | rfl <;> simp
theorem Tb.entry (h : Tb es) {e : MapEntry} (he : e ∈ es.toList) : ∃ f t, e.key = kEnd f 0 ∧ e.val = .string (bs t) ∧ (f = -1 ∧ t = minfL ∨ f = 1 ∧ t = infL) := by
 rcases h with rfl | rfl <;> simp at he <;> rcases he with rfl | rfl <;> first | exact ⟨-1, minfL, rfl, rfl, .inl ⟨rfl, rfl⟩⟩ | exact ⟨1, infL, rfl, rfl, .inr ⟨rfl, rfl⟩⟩
theorem Tb.has (h : Tb es) : (∃ x ∈ es.toList, x.val = .string (bs minfL)) ∧ ∃ x ∈ es.toList, x.val = .string (bs infL) := by
 rcases h with rfl | rfl <;> simp <;> exact ⟨by first | exact .inl rfl | exact .inr rfl, by first | exact .inl rfl | exact .inr rfl⟩
set_option maxHeartbeats 4000000 in
theorem dPar_is {l : List UInt8} {f d c : Int} (h : ParE l f d c) (hl : l.length ≤ 1000) (w : World) (hL : LaidEn w) :
 Calls Tryz.prog 65 #[.string (bs l)] w fun x w' => x = .returned (.tuple #[.agg #[.int .i8 f, .int .i64 d], .int .i64 c]) ∧ Below w.heap.size w w' := by
 have HP := Kp.mk h
 have HL := Kp.mk (fun v (hv : Below w.heap.size w v) => hL.below hv)
 have hs : (bs l).size ≤ 281474976710656 := by rw [bs_size]; omega
 have HS := Kp.mk hs
 have hdl : (bs l).data.toList = l := by unfold bs; simp
 have HR := Kp.mk (erow_new (w := w) 0 0 (Below.refl w.heap.size w))
 clear h hl hL hs
 obtain ⟨s, hse⟩ : ∃ s, s = bs l := ⟨_, rfl⟩
 have HE := Kp.mk hse
 have HDL := Kp.mk (hse ▸ hdl)
 rw [← hse]
 rw [← hse] at HS
 clear hdl hse
 go_enter Tryz.func65, Tryz.ntmps65
 go_upto_region 1 with fail
 generalize w.alloc (.cells #[.int .i8 0, .int .i64 0] 24) = w0 at *
 go_wp2_with fail
 refine (infs_is _ (HL.out _ HR.out.below)).mono ?_
 rintro e w1 ⟨r, es, rfl, hes, hr, hm, hbl⟩
 have hrg := run_range_map (P := Tryz.prog) w1 108 24 9 r es 2 Tryz.underlying108 hm
 have HR1 := Kp.mk (HR.out.step hbl)
 have HPs : Kp (Ps w r w1.heap.size es #[] (w1.alloc (.mapIter (some r) 2 #[] 2))) := Kp.mk ⟨HR1.out.step ((Below.refl w1.heap.size w1).alloc (Nat.le_refl _) _), by rw [heap_alloc_old w1 _ (Array.getElem?_eq_some_iff.1 hm).1]; exact hm, heap_alloc_new w1 _⟩
 have HT := Kp.mk hes
 have HQ : Kp (w.heap.size < w1.heap.size ∧ r ≠ w1.heap.size) := Kp.mk ⟨by have := (Array.getElem?_eq_some_iff.1 HR1.out.heap).1; omega, by have := (Array.getElem?_eq_some_iff.1 hm).1; omega⟩
 clear hes hr hm hbl HR HR1
 go_wp2_with fail
 clear hrg
 generalize w1.alloc (.mapIter (some r) 2 #[] 2) = w2 at *
 generalize w1.heap.size = it at *
 go_loopw [] (fun wr => ∃ seen, Kp (Ps w r it es seen wr) ∧ Kp (∀ x ∈ es.toList, seen.contains x.born = true → ¬ x.val = .string s)) (fun wr => (leftOf es (wr.iterSeen it)).size)
 case atStart => exact ⟨#[], HPs, Kp.mk (fun x _ hx => by simp at hx)⟩
 case round =>
  obtain ⟨seen, HP1, HN⟩ := hrel
  clear HPs
  have law := run_next_at (P := Tryz.prog) _ 0 it r 2 2 seen es 2 HP1.out.iter HP1.out.map HT.out.old (Nat.le_refl _)
  rcases law with ⟨h0, hrun⟩ | ⟨e, he, w3, hw3, hrun⟩
  ·have hnx : ∀ ty, (Instr.next (.pointer (some ⟨it, 0, none⟩)) false ty).run Tryz.prog _ = _ := fun _ => hrun
   have hno : ¬ l = minfL ∧ ¬ l = infL := by
    obtain ⟨⟨x, hx, hxv⟩, ⟨y, hy, hyv⟩⟩ := HT.out.has
    constructor
    ·intro e; exact HN.out x hx (all_seen es seen h0 x hx) (by rw [hxv, HE.out, e])
    ·intro e; exact HN.out y hy (all_seen es seen h0 y hy) (by rw [hyv, HE.out, e])
   clear HN hrun h0
   by_cases hF : Form l
   ·by_cases hr : -9223372036854775808 ≤ textVal l ∧ textVal l ≤ 9223372036854775807
    ·obtain ⟨rfl, rfl, rfl⟩ := HP.out.fits hno.2 hno.1 hF hr
     have rp : Kp (∀ v : World, Calls Tryz.prog 80 #[.string s] v fun e v' => e = .returned (.tuple #[.int .i64 (textVal l), .int .i64 0]) ∧ Below v.heap.size v v') := Kp.mk (fun v => by
      have := I1.parse_in s v HS.out (by rw [HDL.out]; exact hF) (by rw [HDL.out]; exact hr.1) (by rw [HDL.out]; exact hr.2)
      rw [HDL.out] at this
      exact this)
     clear hno hF hr
     go_wp2_with fail
     refine (rp.out _).mono ?_
     rintro e w4 ⟨rfl, hbl⟩
     have HR := Kp.mk (HP1.out.row.step hbl)
     clear hbl hnx
     go_wp2_with fail
     refine (dOf_is _ _).mono ?_
     rintro e w5 ⟨rfl, hbl⟩
     have HR := Kp.mk (HR.out.step hbl)
     clear hbl
     go_wp2_with (first
      | refine wpList_store_row' rfl 24 (.tmp 2) (.tmp 29) rfl (w.heap.size) #[.int .i8 0, .int .i64 (textVal l)] rfl rfl 24 #[.int .i8 0, .int .i64 0] HR.out.heap infoEnd rfl (two_one _ _) ?_)
     refine bodyPost_ret (results_cell_tmp (p := 2) (ty := 24) rfl _ _ (w.heap.size) 24 #[.int .i8 0, .int .i64 (textVal l)] (0, 0) _ rfl (setRow_heap _ _ _ _ _ _ HR.out.heap) Tryz.underlying24 rfl infoEnd) rfl ?_
     exact ⟨rfl, below_setRow HR.out.below HR.out.base _⟩
    ·obtain ⟨rfl, rfl, rfl⟩ := HP.out.over hno.2 hno.1 hF hr
     have rp : Kp (∀ v : World, LaidEn v → Calls Tryz.prog 80 #[.string s] v fun e v' => e = .returned (.tuple #[.int .i64 0, .int .i64 15]) ∧ Below v.heap.size v v') := Kp.mk (fun v hv => by
      exact I1.parse_out s v hv.ints HS.out (by rw [HDL.out]; exact hF) (by rw [HDL.out]; exact hr))
     clear hno hF hr
     go_wp2_with fail
     refine (rp.out _ (HL.out _ HP1.out.row.below)).mono ?_
     rintro e w4 ⟨rfl, hbl⟩
     have HR := Kp.mk (HP1.out.row.step hbl)
     clear hbl hnx
     go_wp2_with (first
      | refine wpList_store_row' rfl 24 (.tmp 2) (.tmp 26) rfl (w.heap.size) #[.int .i8 0, .int .i64 0] rfl rfl 24 #[.int .i8 0, .int .i64 0] HR.out.heap infoEnd rfl (two_one _ _) ?_)
     refine bodyPost_ret (results_cell_tmp (p := 2) (ty := 24) rfl _ _ (w.heap.size) 24 #[.int .i8 0, .int .i64 0] (0, 0) _ rfl (setRow_heap _ _ _ _ _ _ HR.out.heap) Tryz.underlying24 rfl infoEnd) rfl ?_
     exact ⟨rfl, below_setRow HR.out.below HR.out.base _⟩
   ·obtain ⟨rfl, rfl, rfl⟩ := HP.out.no hno.2 hno.1 hF
    have rp : Kp (∀ v : World, Calls Tryz.prog 80 #[.string s] v fun e v' => e = .returned (.tuple #[.int .i64 0, .int .i64 5]) ∧ Below v.heap.size v v') := Kp.mk (fun v => by
     exact I1.parse_no' s v HS.out (by rw [HDL.out]; exact hF))
    clear hno hF
    go_wp2_with fail
    refine (rp.out _).mono ?_
    rintro e w4 ⟨rfl, hbl⟩
    have HR := Kp.mk (HP1.out.row.step hbl)
    clear hbl hnx
    go_wp2_with (first
     | refine wpList_store_row' rfl 24 (.tmp 2) (.tmp 26) rfl (w.heap.size) #[.int .i8 0, .int .i64 0] rfl rfl 24 #[.int .i8 0, .int .i64 0] HR.out.heap infoEnd rfl (two_one _ _) ?_)
    refine bodyPost_ret (results_cell_tmp (p := 2) (ty := 24) rfl _ _ (w.heap.size) 24 #[.int .i8 0, .int .i64 0] (0, 0) _ rfl (setRow_heap _ _ _ _ _ _ HR.out.heap) Tryz.underlying24 rfl infoEnd) rfl ?_
    exact ⟨rfl, below_setRow HR.out.below HR.out.base _⟩
  ·obtain ⟨f', t, hk, hv, hft⟩ := HT.out.entry (mem_left he).1
   have HPn := Kp.mk (HP1.out.next HQ.out.1 HQ.out.2 hw3 e.born)
   have hen := run_entry_at (P := Tryz.prog) _ it r 2 seen es 2 e HPn.out.iter HPn.out.map (mem_left he).1 HT.out.nodup
   obtain ⟨x, hx⟩ : ∃ x, x = bs t := ⟨_, rfl⟩
   rw [← hx] at hv
   have HV := Kp.mk (And.intro he (And.intro hv (And.intro hx hft)))
   have hlf := left_shrinks es seen e he
   have HSN := Kp.mk (iterSeen_of HP1.out.iter)
   have HLF := Kp.mk hlf
   rw [hk, hv] at hrun hen
   clear hk hv hx hft hw3 he hlf
   have hnx : ∀ ty, (Instr.next (.pointer (some ⟨it, 0, none⟩)) false ty).run Tryz.prog _ = _ := fun _ => hrun
   clear hrun
   go_upto_region 3 with fail
   clear hnx
   generalize setBlock w3 it (.mapIter (some r) 2 (seen.push e.born) 2) = w4 at *
   have hR5 := erow_new (w := w) 0 0 HPn.out.row.below
   have hB5 : Below w4.heap.size w4 ((w4.alloc (.cells #[.int .i8 0, .int .i64 0] 24)).setRow w4.heap.size #[.int .i8 f', .int .i64 0]) := below_setRow ((Below.refl w4.heap.size w4).alloc (Nat.le_refl _) _) (Nat.le_refl _) _
   have HP5 := Kp.mk (HPn.out.step hB5)
   have hh5 := setRow_heap _ _ _ #[.int .i8 f', .int .i64 0] _ _ hR5.heap
   have k0 : ((w4.alloc (.cells #[.int .i8 0, .int .i64 0] 24)).setRow w4.heap.size #[.int .i8 f', .int .i64 0]).cell? ⟨w4.heap.size, 0, none⟩ = some (.int .i8 f') := by rw [cell_of_row _ _ 0 _ _ _ hh5]; rfl
   have k1 : ((w4.alloc (.cells #[.int .i8 0, .int .i64 0] 24)).setRow w4.heap.size #[.int .i8 f', .int .i64 0]).cell? ⟨w4.heap.size, 1, none⟩ = some (.int .i64 0) := by rw [cell_of_row _ _ 1 _ _ _ hh5]; rfl
   clear hR5 hB5 hh5
   by_cases hlt : l = t
   ·have t1 : (s.toList == x.toList) = true := by rw [HE.out, HV.out.2.2.1, hlt, beq_self_eq_true]
    have hfd : f = f' ∧ d = 0 ∧ c = 0 := by
     rcases HV.out.2.2.2 with ⟨rfl, rfl⟩ | ⟨rfl, rfl⟩
     ·exact HP.out.minf hlt
     ·exact HP.out.inf hlt
    obtain ⟨rfl, rfl, rfl⟩ := hfd
    have HR := Kp.mk HP5.out.row
    clear hlt
    go_wp2_with (first
     | refine wpList_store_row' rfl 24 (.tmp 4) (.tmp 13) rfl (w4.heap.size) #[.int .i8 f, .int .i64 0] rfl rfl 24 #[.int .i8 0, .int .i64 0] (heap_alloc_new _ _) infoEnd rfl (two_one _ _) ?_
     | refine wpList_store_row' rfl 24 (.tmp 2) (.tmp 18) rfl (w.heap.size) #[.int .i8 f, .int .i64 0] rfl rfl 24 #[.int .i8 0, .int .i64 0] HR.out.heap infoEnd rfl (two_one _ _) ?_)
    refine bodyPost_ret (results_cell_tmp (p := 2) (ty := 24) rfl _ _ (w.heap.size) 24 #[.int .i8 f, .int .i64 0] (0, 0) _ rfl (setRow_heap _ _ _ _ _ _ HR.out.heap) Tryz.underlying24 rfl infoEnd) rfl ?_
    exact ⟨rfl, below_setRow HR.out.below HR.out.base _⟩
   ·have t1 : (s.toList == x.toList) = false := by
     rw [beq_eq_false_iff_ne]
     intro e
     apply hlt
     have : s = x := by rw [ByteArray.toList_eq, ByteArray.toList_eq] at e; exact ByteArray.ext (Array.toList_inj.1 e)
     rw [HE.out, HV.out.2.2.1] at this
     exact bs_inj.1 this
    clear hlt
    go_wp2_with (first
     | refine wpList_store_row' rfl 24 (.tmp 4) (.tmp 13) rfl (w4.heap.size) #[.int .i8 f', .int .i64 0] rfl rfl 24 #[.int .i8 0, .int .i64 0] (heap_alloc_new _ _) infoEnd rfl (two_one _ _) ?_)
    go_roundw
    case rel =>
     refine ⟨seen.push e.born, HP5, Kp.mk (fun y hy hc => ?_)⟩
     rw [contains_push] at hc
     rcases Bool.or_eq_true _ _ ▸ hc with h1 | h1
     ·exact HN.out y hy h1
     ·have hye : y = e := born_inj HT.out.nodup hy (mem_left HV.out.1).1 (beq_iff_eq.1 h1)
      rw [hye, HV.out.2.1]
      intro e2
      injection e2 with e2
      rw [e2, beq_self_eq_true] at t1
      exact Bool.noConfusion t1
    case measure =>
     rw [iterSeen_of HP5.out.iter, HSN.out]
     exact HLF.out
end Go.Proofs.YteddfolhpoikcaaGreatDoor
