/-
 DERIVED. CONTRACT of the reference's Parse.
 DERIVED. CONTRACT of the reference's Add: other signs; all signs.
 DERIVED. CONTRACT of the reference's Cmp.
 DERIVED. CONTRACTS of the reference's Int, and of the statements' own 'is'.
 DERIVED. The whole numbers' reference in namespace R1: Parse, any text. Written by mkr1b.
-/
import Derived.Test.YteddfolhpoikcaaGreatDoorPR1a
import Derived.Test.YteddfolhpoikcaaGreatDoorPPa
import Derived.WalkSpells
import Derived.Deep.RegionLaw
import Derived.Deep.RegionHeld
import Derived.Deep.Cut
import Derived.Deep.RegionHeld3
import Derived.Deep.DeepCutAuto
namespace Go.Proofs.YteddfolhpoikcaaGreatDoor.R1
open Go.RowKit

def dgs (l : List UInt8) (k : Nat) : List Nat := (l.drop k).reverse.map fun c => c.toNat - 48
theorem dgs_step (l : List UInt8) (k : Nat) (h : k < l.length) : dgs l k = dgs l (k + 1) ++ [l[k].toNat - 48] := by
 unfold dgs
 rw [List.drop_eq_getElem_cons h, List.reverse_cons, List.map_append]; rfl
theorem dgs_end (l : List UInt8) : dgs l l.length = [] := by unfold dgs; rw [List.drop_length]; rfl
theorem dgs_len (l : List UInt8) (k : Nat) : (dgs l k).length = l.length - k := by unfold dgs; simp
theorem valM_append' (a b : List UInt8) : ∀ acc, valM acc (a ++ b) = valM (valM acc a) b := by
 induction a with
 | nil => intro acc; rfl
 | cons x t ih => intro acc; exact ih _
theorem vl_rev (m : List UInt8) : vl (m.map fun c => c.toNat - 48) = valM 0 m.reverse := by
 induction m with
 | nil => rfl
 | cons c r ih =>
  rw [List.reverse_cons, valM_append', ← ih]
  show (c.toNat - 48) + 10 * vl (r.map fun c => c.toNat - 48) = vl (r.map fun c => c.toNat - 48) * 10 + (c.toNat - 48)
  generalize vl (r.map fun c => c.toNat - 48) = x
  generalize c.toNat - 48 = d
  omega
theorem vl_dgs (l : List UInt8) (k : Nat) : vl (dgs l k) = valM 0 (l.drop k) := by
 unfold dgs; rw [vl_rev, List.reverse_reverse]
theorem dgs_nine (l : List UInt8) (k : Nat) (h : ∀ c ∈ l.drop k, dig c) : ∀ d ∈ dgs l k, d ≤ 9 := by
 intro d hd
 unfold dgs at hd
 simp only [List.mem_map, List.mem_reverse] at hd
 obtain ⟨c, hc, rfl⟩ := hd
 have := h c hc
 unfold dig at this; omega
theorem mem_drop_at (l : List UInt8) (k m : Nat) (h : k ≤ m) (hm : m < l.length) : l[m] ∈ l.drop k :=
 List.mem_iff_getElem.2 ⟨m - k, by rw [List.length_drop]; omega, by simp only [List.getElem_drop, show k + (m - k) = m by omega]⟩
theorem all_step (l : List UInt8) (m : Nat) (hm : m < l.length) (h : ∀ c ∈ l.drop (m + 1), dig c) (hd : dig l[m]) : ∀ c ∈ l.drop m, dig c := by
 rw [List.drop_eq_getElem_cons hm]
 intro c hc
 rcases List.mem_cons.1 hc with e | e
 ·rw [e]; exact hd
 ·exact h c e
/-- append onto a row of the call's own, as one step of a region that draws its order -/
theorem step_append_own {P : Program} {ops : Array Oper} {o : Oper} {a : Act} {w : World} {K : Act → World → Prop} {Q : Exit → Act → World → Prop} {E : Prop} (hgd : o.guard = none) (s x : Operand) (t : TypeId)
 (ho : o.op = .call { callee := .builtin .append, args := #[s, x], argTypes := #[t, t] })
 (base : Nat) (e : TypeId) (i : TypeInfo) (z : Value) (size bytes : Nat) (ht : P.underlying t = some (.slice e)) (hi : P.info? e = some i) (hz : i.zero = some z)
 (hsize : i.size = size) (hby : i.bytes = bytes) (hzs : z.cells.size = size) (hsz : 0 < size)
 (v : Value) (n : Nat) (xs : List Value) (hs : a.eval s = v) (hown : w.ownsRow base e size v n xs)
 (ad : Addr) (m c : Nat) (news : List Value) (hx : a.eval x = .slice (some ad) m c) (hl : news.length = m * size) (hnews : ∀ j u, news[j]? = some u → w.cell? (ad.add j) = some u) (h1 : ∀ u ∈ news, u.oneCell' = true)
 (h63 : n + m ≤ maxLen) (hbytes : (n + m) * bytes ≤ 140737488355328) (hbase : base ≤ w.heap.size)
 (h : ∀ v' w', w'.ownsRow base e size v' (n + m) (xs ++ news) → w.grownBy w' v.ownBlock → (v' = .slice none 0 0 ↔ v = .slice none 0 0 ∧ m = 0) → K (a.put o.dst v') w') :
 if Region.wanted o (yielded ops a.tmps) = true then Oper.wp P o a w K Q else E := by
 have hw : Region.wanted o (yielded ops a.tmps) = true := by simp [Region.wanted, hgd]
 rw [if_pos hw]
 exact wp_append_own w s x t ho base e i z size bytes ht hi hz hsize hby hzs hsz v n xs hs hown ad m c news hx hl hnews h1 h63 hbytes hbase h
/-- refused: nothing, and false -/
def Refused (w : World) (e : Ending) (w' : World) : Prop := e = .returned (.tuple #[.agg #[.bool false, .slice none 0 0], .bool false]) ∧ Below w.heap.size w w'
/-- read: a number, and true -/
def ReadAs (x : Int) (w : World) (e : Ending) (w' : World) : Prop :=
 (∃ a cap, e = .returned (.tuple #[.agg #[.bool (decide (x < 0)), .slice a (dg x.natAbs).length cap], .bool true]) ∧ Digs w' (.slice a (dg x.natAbs).length cap) (dg x.natAbs)) ∧ Below w.heap.size w w'


set_option maxRecDepth 100000 in
set_option maxHeartbeats 1000000 in
theorem rparse_empty  (w : World) :
 Calls Tryz.prog 82 #[.string ⟨#[]⟩] w (Refused w) := by
 go_enter Tryz.func82, Tryz.ntmps82
 go_wp2_with fail
 exact bodyPost_ret (v := .tuple #[.agg #[.bool false, .slice none 0 0], .bool false]) (by simp [results, Tryz.results82, go_sem]) rfl ⟨rfl, below2 _ _ _⟩

set_option maxRecDepth 100000 in
set_option maxHeartbeats 1000000 in
theorem rparse_minus  (w : World) :
 Calls Tryz.prog 82 #[.string ⟨#[45]⟩] w (Refused w) := by
 go_enter Tryz.func82, Tryz.ntmps82
 go_wp2_with fail
 exact bodyPost_ret (v := .tuple #[.agg #[.bool false, .slice none 0 0], .bool false]) (by simp [results, Tryz.results82, go_sem]) rfl ⟨rfl, below2 _ _ _⟩

set_option maxRecDepth 100000 in
set_option maxHeartbeats 1000000 in
theorem rparse_lead (s : ByteArray) (hn : 1 < s.size) (hm : s.size ≤ 1000) (h0 : ((s[0].toNat : Int) == 45) = false) (h1 : ((s[0].toNat : Int) == 48) = true) (w : World) :
 Calls Tryz.prog 82 #[.string s] w (Refused w) := by
 have h2 : ((s.size : Int) == 0) = false := beq_eq_false_iff_ne.2 (by omega)
 go_enter Tryz.func82, Tryz.ntmps82
 go_wp2_with fail
 exact bodyPost_ret (v := .tuple #[.agg #[.bool false, .slice none 0 0], .bool false]) (by simp [results, Tryz.results82, go_sem]) rfl ⟨rfl, below2 _ _ _⟩

set_option maxRecDepth 100000 in
set_option maxHeartbeats 1000000 in
theorem rparse_mlead (s : ByteArray) (hn : 1 < s.size) (hm : s.size ≤ 1000) (h0 : ((s[0].toNat : Int) == 45) = true) (h1 : ((s[1].toNat : Int) == 48) = true) (w : World) :
 Calls Tryz.prog 82 #[.string s] w (Refused w) := by
 have h2 : ((s.size : Int) == 1) = false := beq_eq_false_iff_ne.2 (by omega)
 go_enter Tryz.func82, Tryz.ntmps82
 go_wp2_with fail
 exact bodyPost_ret (v := .tuple #[.agg #[.bool false, .slice none 0 0], .bool false]) (by simp [results, Tryz.results82, go_sem]) rfl ⟨rfl, below2 _ _ _⟩

set_option maxRecDepth 100000 in
set_option maxHeartbeats 2000000 in
theorem rparse_mok (s : ByteArray) (hm : s.size ≤ 1000) (hn : 1 < s.size) (h0 : ((s[0].toNat : Int) == 45) = true) (h1 : ((s[1].toNat : Int) == 48) = false) (hd : ∀ c ∈ s.data.toList.drop 1, dig c) (w : World) :
 Calls Tryz.prog 82 #[.string s] w (ReadAs (nv true (dgs s.data.toList 1)) w) := by
 obtain ⟨i0, hi, hz0, hz1, hz2⟩ := info_parts info5
 have HDIG := Lib.hid hd; clear hd
 have hlen : s.data.toList.length = s.size := Array.length_toList
 have HLEN := Lib.hid hlen; clear hlen
 have h2 : ((s.size : Int) == 1) = false := beq_eq_false_iff_ne.2 (by omega)
 go_enter Tryz.func82, Tryz.ntmps82
 go_wp2_with fail
 go_loopw [6] (fun i wr => ∃ (z : Int) (v : Value), 1 - 1 ≤ z ∧ z < s.size ∧ i = .int .i64 z ∧ Hid (∀ c ∈ s.data.toList.drop (z + 1).toNat, dig c) ∧ SumRel (w.heap.size + 1) true (w.alloc (.cells #[.bool false, .slice none 0 0] NT)) (dgs s.data.toList (z + 1).toNat) v wr) (fun i _ => (intOf i + 1).toNat)
 case atStart => exact ⟨(s.size : Int) - 1, .slice none 0 0, by omega, by omega, (by first | rfl | (rw [hn]; rfl)), Lib.hid (by
  rw [show ((s.size : Int) - 1 + 1).toNat = s.data.toList.length from by rw [HLEN.out]; omega, List.drop_length]; simp), by
  rw [show ((s.size : Int) - 1 + 1).toNat = s.data.toList.length from by rw [HLEN.out]; omega, dgs_end]
  exact ⟨(Below.refl _ _).alloc (by simp) _, by simp, by simp [go_sem], by simp [go_sem], by simp [go_sem], by simp [go_sem], World.ownsRow_nil _ _ _ _⟩⟩
 case round =>
  obtain ⟨z, v, hz1', hz2', rfl, hall, R⟩ := hrel
  have hbl := R.below
  have hc0 := R.c0
  have hc1 := R.c1
  have hf1 := R.f1
  have r0 : wr.cell? ⟨w.heap.size, 0, none⟩ = some (.bool false) := by rw [hbl.cell (p := ⟨w.heap.size, 0, none⟩) (by simp)]; simp [go_sem]
  have r1 : wr.cell? ⟨w.heap.size, 1, none⟩ = some (.slice none 0 0) := by rw [hbl.cell (p := ⟨w.heap.size, 1, none⟩) (by simp)]; simp [go_sem]
  have g0 : wr.frozen? ⟨w.heap.size, 0, none⟩ = false := by rw [hbl.frozen (p := ⟨w.heap.size, 0, none⟩) (by simp)]; simp [go_sem]
  have g1 : wr.frozen? ⟨w.heap.size, 1, none⟩ = false := by rw [hbl.frozen (p := ⟨w.heap.size, 1, none⟩) (by simp)]; simp [go_sem]
  have hB : Below w.heap.size w wr := (below1 w _).trans (hbl.mono (by omega))
  have hsz := R.size
  have RR := Lib.hid R; clear R hbl
  by_cases hz : 1 ≤ z
  ·obtain ⟨m, rfl⟩ := Int.eq_ofNat_of_zero_le (show 0 ≤ z by omega)
   have hms : m < s.size := by omega
   have hms2 : m < s.data.toList.length := by rw [HLEN.out]; exact hms
   have hget : s.data.toList[m] = s[m] := rfl
   have HGET := Lib.hid hget; clear hget
   rw [show ((m : Int) + 1).toNat = m + 1 from by omega] at hall RR
   by_cases hdg : 48 ≤ s[m].toNat ∧ s[m].toNat ≤ 57
   ·obtain ⟨d1, d2⟩ := hdg
    have d1' : ¬ (s[m].toNat : Int) < 48 := by omega
    have d2' : ¬ 57 < (s[m].toNat : Int) := by omega
    have e1 : (s[m].toNat : Int) - 48 = ((s[m].toNat - 48 : Nat) : Int) := by omega
    have E1 := Lib.hid e1; clear e1
    have hl2 : (dgs s.data.toList (m + 1)).length ≤ 1000 := by rw [dgs_len, HLEN.out]; omega
    have RO : wr.drew.ownsRow (w.heap.size + 1 + 1) 5 1 v (dgs s.data.toList (m + 1)).length (vs (dgs s.data.toList (m + 1))) := RR.out.own
    have RO := Lib.hid RO
    have enew := World.new_ne wr _ hc1
    have wu : IntKind.u8.wrap ((s[m].toNat : Int) - 48) = (s[m].toNat : Int) - 48 := IntWalk.u8_in _ (by omega)
    go_upto_region 13 with fail
    go_region_law (
     refine step_append_own rfl (.tmp 52) (.tmp 57) 82 rfl (w.heap.size + 1 + 1) 5 i0 (.int .u8 0) 1 1 Tryz.underlying82 hi hz0 hz1 hz2 rfl (by decide) v (dgs s.data.toList (m + 1)).length (vs (dgs s.data.toList (m + 1))) rfl (RO.out.alloc _) ⟨wr.heap.size, 0, none⟩ 1 1 [.int .u8 ((s[m].toNat : Int) - 48)] rfl rfl (fun j u h => one_new wr _ _ j u h) (by intro u hu; simp at hu; subst hu; rfl) (by unfold maxLen; omega) (by omega) (size_newN _ 1 _ _ RR.out.size) ?_
     intro v' w' hown' hgrow _
     obtain ⟨a', cap', rfl⟩ := own_shape hown'
     rw [E1.out] at hown'
     obtain ⟨hR, k1, kf1⟩ := RR.out.round (((Below.refl _ _).alloc (by simp) _).drew) hgrow _ hown'
     have HR := Lib.hid hR; clear hR
     clear hown' hgrow)
    all_goals
     go_wp2_with fail
     go_roundw
     case rel => exact ⟨(m : Int) - 1, _, by omega, by omega, by simp, Lib.hid (by
      rw [show ((m : Int) - 1 + 1).toNat = m from by omega]
      exact all_step _ m hms2 hall.out (by rw [HGET.out]; unfold dig; exact ⟨d1, d2⟩)), by
      rw [show ((m : Int) - 1 + 1).toNat = m from by omega, dgs_step _ m hms2, HGET.out]
      exact HR.out⟩
     case measure => simp [intOf]
   ·exact absurd (HDIG.out _ (mem_drop_at _ 1 m (by omega) hms2)) (by rw [HGET.out]; exact hdg)
  ·obtain ⟨a, cap, rfl, hD, hf⟩ := own_digs RR.out.own (by rw [dgs_len, HLEN.out]; omega)
   rw [show (z + 1).toNat = 1 from by omega] at hD hall
   have h9 := dgs_nine _ _ hall.out
   have ct := fun (w1 : World) (h : Digs w1 (.slice a (dgs s.data.toList 1).length cap) (dgs s.data.toList 1)) => ref_trim true _ (dgs s.data.toList 1) w1 h h9
   have CT := Lib.hid ct; clear ct
   have HD := Lib.hid hD; clear hD
   have HF := Lib.hid hf; clear hf
   have HB := Lib.hid hB; clear hB
   rw [show (z + 1).toNat = 1 from by omega] at hc1
   go_wp2_with fail
   refine (CT.out _ HD.out).mono ?_
   rintro e w1 ⟨⟨a1, cap1, rfl, hd1, hf1⟩, hb1⟩
   have D1 := Lib.hid hd1; clear hd1
   have c0 : w1.cell? ⟨w.heap.size, 0, none⟩ = some (.bool false) := by rw [hb1.cell (p := ⟨w.heap.size, 0, none⟩) (show w.heap.size < wr.heap.size by omega)]; exact r0
   have c1 : w1.cell? ⟨w.heap.size, 1, none⟩ = some (.slice none 0 0) := by rw [hb1.cell (p := ⟨w.heap.size, 1, none⟩) (show w.heap.size < wr.heap.size by omega)]; exact r1
   have f0 : w1.frozen? ⟨w.heap.size, 0, none⟩ = false := by rw [hb1.frozen (p := ⟨w.heap.size, 0, none⟩) (show w.heap.size < wr.heap.size by omega)]; exact g0
   have f1 : w1.frozen? ⟨w.heap.size, 1, none⟩ = false := by rw [hb1.frozen (p := ⟨w.heap.size, 1, none⟩) (show w.heap.size < wr.heap.size by omega)]; exact g1
   have hb0 := HB.out.trans (hb1.mono (by omega))
   clear hb1 r0 r1 g0 g1
   have HF1 := Lib.hid hf1; clear hf1
   go_wp2_with fail
   refine bodyPost_ret (v := .tuple #[.agg #[.bool (decide (nv true (dgs s.data.toList 1) < 0)), .slice a1 (dg (nv true (dgs s.data.toList 1)).natAbs).length cap1], .bool true]) (by simp [results, Tryz.results82, go_sem, c0, c1]) rfl ?_
   have hne : ∀ p, a1 = some p → ¬ p.block = w.heap.size := fun p hp => by
    rcases HF1.out p hp with h | h
    ·omega
    ·cases a with
     | none => simp [sb] at h
     | some q => simp [sb] at h; have := HF.out q rfl; omega
   exact ⟨⟨a1, cap1, rfl, (D1.out.setCell hne).setCell hne⟩, (hb0.setCell (p := ⟨w.heap.size, 0, none⟩) (Nat.le_refl _) _).setCell (p := ⟨w.heap.size, 1, none⟩) (Nat.le_refl _) _⟩


set_option maxRecDepth 100000 in
set_option maxHeartbeats 2000000 in
theorem rparse_mbad (s : ByteArray) (hm : s.size ≤ 1000) (hn : 1 < s.size) (h0 : ((s[0].toNat : Int) == 45) = true) (h1 : ((s[1].toNat : Int) == 48) = false) (hd : ¬ ∀ c ∈ s.data.toList.drop 1, dig c) (w : World) :
 Calls Tryz.prog 82 #[.string s] w (Refused w) := by
 obtain ⟨i0, hi, hz0, hz1, hz2⟩ := info_parts info5
 have HDIG := Lib.hid hd; clear hd
 have hlen : s.data.toList.length = s.size := Array.length_toList
 have HLEN := Lib.hid hlen; clear hlen
 have h2 : ((s.size : Int) == 1) = false := beq_eq_false_iff_ne.2 (by omega)
 go_enter Tryz.func82, Tryz.ntmps82
 go_wp2_with fail
 go_loopw [6] (fun i wr => ∃ (z : Int) (v : Value), 1 - 1 ≤ z ∧ z < s.size ∧ i = .int .i64 z ∧ Hid (∀ c ∈ s.data.toList.drop (z + 1).toNat, dig c) ∧ SumRel (w.heap.size + 1) true (w.alloc (.cells #[.bool false, .slice none 0 0] NT)) (dgs s.data.toList (z + 1).toNat) v wr) (fun i _ => (intOf i + 1).toNat)
 case atStart => exact ⟨(s.size : Int) - 1, .slice none 0 0, by omega, by omega, (by first | rfl | (rw [hn]; rfl)), Lib.hid (by
  rw [show ((s.size : Int) - 1 + 1).toNat = s.data.toList.length from by rw [HLEN.out]; omega, List.drop_length]; simp), by
  rw [show ((s.size : Int) - 1 + 1).toNat = s.data.toList.length from by rw [HLEN.out]; omega, dgs_end]
  exact ⟨(Below.refl _ _).alloc (by simp) _, by simp, by simp [go_sem], by simp [go_sem], by simp [go_sem], by simp [go_sem], World.ownsRow_nil _ _ _ _⟩⟩
 case round =>
  obtain ⟨z, v, hz1', hz2', rfl, hall, R⟩ := hrel
  have hbl := R.below
  have hc0 := R.c0
  have hc1 := R.c1
  have hf1 := R.f1
  have r0 : wr.cell? ⟨w.heap.size, 0, none⟩ = some (.bool false) := by rw [hbl.cell (p := ⟨w.heap.size, 0, none⟩) (by simp)]; simp [go_sem]
  have r1 : wr.cell? ⟨w.heap.size, 1, none⟩ = some (.slice none 0 0) := by rw [hbl.cell (p := ⟨w.heap.size, 1, none⟩) (by simp)]; simp [go_sem]
  have g0 : wr.frozen? ⟨w.heap.size, 0, none⟩ = false := by rw [hbl.frozen (p := ⟨w.heap.size, 0, none⟩) (by simp)]; simp [go_sem]
  have g1 : wr.frozen? ⟨w.heap.size, 1, none⟩ = false := by rw [hbl.frozen (p := ⟨w.heap.size, 1, none⟩) (by simp)]; simp [go_sem]
  have hB : Below w.heap.size w wr := (below1 w _).trans (hbl.mono (by omega))
  have hsz := R.size
  have RR := Lib.hid R; clear R hbl
  by_cases hz : 1 ≤ z
  ·obtain ⟨m, rfl⟩ := Int.eq_ofNat_of_zero_le (show 0 ≤ z by omega)
   have hms : m < s.size := by omega
   have hms2 : m < s.data.toList.length := by rw [HLEN.out]; exact hms
   have hget : s.data.toList[m] = s[m] := rfl
   have HGET := Lib.hid hget; clear hget
   rw [show ((m : Int) + 1).toNat = m + 1 from by omega] at hall RR
   by_cases hdg : 48 ≤ s[m].toNat ∧ s[m].toNat ≤ 57
   ·obtain ⟨d1, d2⟩ := hdg
    have d1' : ¬ (s[m].toNat : Int) < 48 := by omega
    have d2' : ¬ 57 < (s[m].toNat : Int) := by omega
    have e1 : (s[m].toNat : Int) - 48 = ((s[m].toNat - 48 : Nat) : Int) := by omega
    have E1 := Lib.hid e1; clear e1
    have hl2 : (dgs s.data.toList (m + 1)).length ≤ 1000 := by rw [dgs_len, HLEN.out]; omega
    have RO : wr.drew.ownsRow (w.heap.size + 1 + 1) 5 1 v (dgs s.data.toList (m + 1)).length (vs (dgs s.data.toList (m + 1))) := RR.out.own
    have RO := Lib.hid RO
    have enew := World.new_ne wr _ hc1
    have wu : IntKind.u8.wrap ((s[m].toNat : Int) - 48) = (s[m].toNat : Int) - 48 := IntWalk.u8_in _ (by omega)
    go_upto_region 13 with fail
    go_region_law (
     refine step_append_own rfl (.tmp 52) (.tmp 57) 82 rfl (w.heap.size + 1 + 1) 5 i0 (.int .u8 0) 1 1 Tryz.underlying82 hi hz0 hz1 hz2 rfl (by decide) v (dgs s.data.toList (m + 1)).length (vs (dgs s.data.toList (m + 1))) rfl (RO.out.alloc _) ⟨wr.heap.size, 0, none⟩ 1 1 [.int .u8 ((s[m].toNat : Int) - 48)] rfl rfl (fun j u h => one_new wr _ _ j u h) (by intro u hu; simp at hu; subst hu; rfl) (by unfold maxLen; omega) (by omega) (size_newN _ 1 _ _ RR.out.size) ?_
     intro v' w' hown' hgrow _
     obtain ⟨a', cap', rfl⟩ := own_shape hown'
     rw [E1.out] at hown'
     obtain ⟨hR, k1, kf1⟩ := RR.out.round (((Below.refl _ _).alloc (by simp) _).drew) hgrow _ hown'
     have HR := Lib.hid hR; clear hR
     clear hown' hgrow)
    all_goals
     go_wp2_with fail
     go_roundw
     case rel => exact ⟨(m : Int) - 1, _, by omega, by omega, by simp, Lib.hid (by
      rw [show ((m : Int) - 1 + 1).toNat = m from by omega]
      exact all_step _ m hms2 hall.out (by rw [HGET.out]; unfold dig; exact ⟨d1, d2⟩)), by
      rw [show ((m : Int) - 1 + 1).toNat = m from by omega, dgs_step _ m hms2, HGET.out]
      exact HR.out⟩
     case measure => simp [intOf]
   ·have hB2 := (hB.setCell (p := ⟨w.heap.size, 0, none⟩) (Nat.le_refl _) (.bool false)).setCell (p := ⟨w.heap.size, 1, none⟩) (Nat.le_refl _) (.slice none 0 0)
    have HB := Lib.hid hB2; clear hB hB2
    have hx : s[m].toNat < 48 ∨ (¬ s[m].toNat < 48 ∧ 57 < s[m].toNat) := by omega
    clear hdg
    rcases hx with x1 | ⟨x1, x2⟩
    ·have x1' : (s[m].toNat : Int) < 48 := by omega
     clear x1
     go_wp2_with fail
     exact bodyPost_ret (v := .tuple #[.agg #[.bool false, .slice none 0 0], .bool false]) (by simp [results, Tryz.results82, go_sem, r0, r1]) rfl ⟨rfl, HB.out⟩
    ·have x1' : ¬ (s[m].toNat : Int) < 48 := by omega
     have x2' : 57 < (s[m].toNat : Int) := by omega
     clear x1 x2
     go_wp2_with fail
     exact bodyPost_ret (v := .tuple #[.agg #[.bool false, .slice none 0 0], .bool false]) (by simp [results, Tryz.results82, go_sem, r0, r1]) rfl ⟨rfl, HB.out⟩

  ·exact absurd (by have h := hall.out; rw [show (z + 1).toNat = 1 from by omega] at h; exact h) HDIG.out

set_option maxRecDepth 100000 in
set_option maxHeartbeats 2000000 in
theorem rparse_pok (s : ByteArray) (hm : s.size ≤ 1000) (hn : 0 < s.size) (h0 : ((s[0].toNat : Int) == 45) = false) (h1 : ((s[0].toNat : Int) == 48) = false) (hd : ∀ c ∈ s.data.toList.drop 0, dig c) (w : World) :
 Calls Tryz.prog 82 #[.string s] w (ReadAs (nv false (dgs s.data.toList 0)) w) := by
 obtain ⟨i0, hi, hz0, hz1, hz2⟩ := info_parts info5
 have HDIG := Lib.hid hd; clear hd
 have hlen : s.data.toList.length = s.size := Array.length_toList
 have HLEN := Lib.hid hlen; clear hlen
 have h2 : ((s.size : Int) == 0) = false := beq_eq_false_iff_ne.2 (by omega)
 go_enter Tryz.func82, Tryz.ntmps82
 go_wp2_with fail
 go_loopw [6] (fun i wr => ∃ (z : Int) (v : Value), 0 - 1 ≤ z ∧ z < s.size ∧ i = .int .i64 z ∧ Hid (∀ c ∈ s.data.toList.drop (z + 1).toNat, dig c) ∧ SumRel (w.heap.size + 1) false (w.alloc (.cells #[.bool false, .slice none 0 0] NT)) (dgs s.data.toList (z + 1).toNat) v wr) (fun i _ => (intOf i + 1).toNat)
 case atStart => exact ⟨(s.size : Int) - 1, .slice none 0 0, by omega, by omega, (by first | rfl | (rw [hn]; rfl)), Lib.hid (by
  rw [show ((s.size : Int) - 1 + 1).toNat = s.data.toList.length from by rw [HLEN.out]; omega, List.drop_length]; simp), by
  rw [show ((s.size : Int) - 1 + 1).toNat = s.data.toList.length from by rw [HLEN.out]; omega, dgs_end]
  exact ⟨(Below.refl _ _).alloc (by simp) _, by simp, by simp [go_sem], by simp [go_sem], by simp [go_sem], by simp [go_sem], World.ownsRow_nil _ _ _ _⟩⟩
 case round =>
  obtain ⟨z, v, hz1', hz2', rfl, hall, R⟩ := hrel
  have hbl := R.below
  have hc0 := R.c0
  have hc1 := R.c1
  have hf1 := R.f1
  have r0 : wr.cell? ⟨w.heap.size, 0, none⟩ = some (.bool false) := by rw [hbl.cell (p := ⟨w.heap.size, 0, none⟩) (by simp)]; simp [go_sem]
  have r1 : wr.cell? ⟨w.heap.size, 1, none⟩ = some (.slice none 0 0) := by rw [hbl.cell (p := ⟨w.heap.size, 1, none⟩) (by simp)]; simp [go_sem]
  have g0 : wr.frozen? ⟨w.heap.size, 0, none⟩ = false := by rw [hbl.frozen (p := ⟨w.heap.size, 0, none⟩) (by simp)]; simp [go_sem]
  have g1 : wr.frozen? ⟨w.heap.size, 1, none⟩ = false := by rw [hbl.frozen (p := ⟨w.heap.size, 1, none⟩) (by simp)]; simp [go_sem]
  have hB : Below w.heap.size w wr := (below1 w _).trans (hbl.mono (by omega))
  have hsz := R.size
  have RR := Lib.hid R; clear R hbl
  by_cases hz : 0 ≤ z
  ·obtain ⟨m, rfl⟩ := Int.eq_ofNat_of_zero_le (show 0 ≤ z by omega)
   have hms : m < s.size := by omega
   have hms2 : m < s.data.toList.length := by rw [HLEN.out]; exact hms
   have hget : s.data.toList[m] = s[m] := rfl
   have HGET := Lib.hid hget; clear hget
   rw [show ((m : Int) + 1).toNat = m + 1 from by omega] at hall RR
   by_cases hdg : 48 ≤ s[m].toNat ∧ s[m].toNat ≤ 57
   ·obtain ⟨d1, d2⟩ := hdg
    have d1' : ¬ (s[m].toNat : Int) < 48 := by omega
    have d2' : ¬ 57 < (s[m].toNat : Int) := by omega
    have e1 : (s[m].toNat : Int) - 48 = ((s[m].toNat - 48 : Nat) : Int) := by omega
    have E1 := Lib.hid e1; clear e1
    have hl2 : (dgs s.data.toList (m + 1)).length ≤ 1000 := by rw [dgs_len, HLEN.out]; omega
    have RO : wr.drew.ownsRow (w.heap.size + 1 + 1) 5 1 v (dgs s.data.toList (m + 1)).length (vs (dgs s.data.toList (m + 1))) := RR.out.own
    have RO := Lib.hid RO
    have enew := World.new_ne wr _ hc1
    have wu : IntKind.u8.wrap ((s[m].toNat : Int) - 48) = (s[m].toNat : Int) - 48 := IntWalk.u8_in _ (by omega)
    go_upto_region 13 with fail
    go_region_law (
     refine step_append_own rfl (.tmp 52) (.tmp 57) 82 rfl (w.heap.size + 1 + 1) 5 i0 (.int .u8 0) 1 1 Tryz.underlying82 hi hz0 hz1 hz2 rfl (by decide) v (dgs s.data.toList (m + 1)).length (vs (dgs s.data.toList (m + 1))) rfl (RO.out.alloc _) ⟨wr.heap.size, 0, none⟩ 1 1 [.int .u8 ((s[m].toNat : Int) - 48)] rfl rfl (fun j u h => one_new wr _ _ j u h) (by intro u hu; simp at hu; subst hu; rfl) (by unfold maxLen; omega) (by omega) (size_newN _ 1 _ _ RR.out.size) ?_
     intro v' w' hown' hgrow _
     obtain ⟨a', cap', rfl⟩ := own_shape hown'
     rw [E1.out] at hown'
     obtain ⟨hR, k1, kf1⟩ := RR.out.round (((Below.refl _ _).alloc (by simp) _).drew) hgrow _ hown'
     have HR := Lib.hid hR; clear hR
     clear hown' hgrow)
    all_goals
     go_wp2_with fail
     go_roundw
     case rel => exact ⟨(m : Int) - 1, _, by omega, by omega, by simp, Lib.hid (by
      rw [show ((m : Int) - 1 + 1).toNat = m from by omega]
      exact all_step _ m hms2 hall.out (by rw [HGET.out]; unfold dig; exact ⟨d1, d2⟩)), by
      rw [show ((m : Int) - 1 + 1).toNat = m from by omega, dgs_step _ m hms2, HGET.out]
      exact HR.out⟩
     case measure => simp [intOf]
   ·exact absurd (HDIG.out _ (mem_drop_at _ 0 m (by omega) hms2)) (by rw [HGET.out]; exact hdg)
  ·obtain ⟨a, cap, rfl, hD, hf⟩ := own_digs RR.out.own (by rw [dgs_len, HLEN.out]; omega)
   rw [show (z + 1).toNat = 0 from by omega] at hD hall
   have h9 := dgs_nine _ _ hall.out
   have ct := fun (w1 : World) (h : Digs w1 (.slice a (dgs s.data.toList 0).length cap) (dgs s.data.toList 0)) => ref_trim false _ (dgs s.data.toList 0) w1 h h9
   have CT := Lib.hid ct; clear ct
   have HD := Lib.hid hD; clear hD
   have HF := Lib.hid hf; clear hf
   have HB := Lib.hid hB; clear hB
   rw [show (z + 1).toNat = 0 from by omega] at hc1
   go_wp2_with fail
   refine (CT.out _ HD.out).mono ?_
   rintro e w1 ⟨⟨a1, cap1, rfl, hd1, hf1⟩, hb1⟩
   have D1 := Lib.hid hd1; clear hd1
   have c0 : w1.cell? ⟨w.heap.size, 0, none⟩ = some (.bool false) := by rw [hb1.cell (p := ⟨w.heap.size, 0, none⟩) (show w.heap.size < wr.heap.size by omega)]; exact r0
   have c1 : w1.cell? ⟨w.heap.size, 1, none⟩ = some (.slice none 0 0) := by rw [hb1.cell (p := ⟨w.heap.size, 1, none⟩) (show w.heap.size < wr.heap.size by omega)]; exact r1
   have f0 : w1.frozen? ⟨w.heap.size, 0, none⟩ = false := by rw [hb1.frozen (p := ⟨w.heap.size, 0, none⟩) (show w.heap.size < wr.heap.size by omega)]; exact g0
   have f1 : w1.frozen? ⟨w.heap.size, 1, none⟩ = false := by rw [hb1.frozen (p := ⟨w.heap.size, 1, none⟩) (show w.heap.size < wr.heap.size by omega)]; exact g1
   have hb0 := HB.out.trans (hb1.mono (by omega))
   clear hb1 r0 r1 g0 g1
   have HF1 := Lib.hid hf1; clear hf1
   go_wp2_with fail
   refine bodyPost_ret (v := .tuple #[.agg #[.bool (decide (nv false (dgs s.data.toList 0) < 0)), .slice a1 (dg (nv false (dgs s.data.toList 0)).natAbs).length cap1], .bool true]) (by simp [results, Tryz.results82, go_sem, c0, c1]) rfl ?_
   have hne : ∀ p, a1 = some p → ¬ p.block = w.heap.size := fun p hp => by
    rcases HF1.out p hp with h | h
    ·omega
    ·cases a with
     | none => simp [sb] at h
     | some q => simp [sb] at h; have := HF.out q rfl; omega
   exact ⟨⟨a1, cap1, rfl, (D1.out.setCell hne).setCell hne⟩, (hb0.setCell (p := ⟨w.heap.size, 0, none⟩) (Nat.le_refl _) _).setCell (p := ⟨w.heap.size, 1, none⟩) (Nat.le_refl _) _⟩


set_option maxRecDepth 100000 in
set_option maxHeartbeats 2000000 in
theorem rparse_pbad (s : ByteArray) (hm : s.size ≤ 1000) (hn : 0 < s.size) (h0 : ((s[0].toNat : Int) == 45) = false) (h1 : ((s[0].toNat : Int) == 48) = false) (hd : ¬ ∀ c ∈ s.data.toList.drop 0, dig c) (w : World) :
 Calls Tryz.prog 82 #[.string s] w (Refused w) := by
 obtain ⟨i0, hi, hz0, hz1, hz2⟩ := info_parts info5
 have HDIG := Lib.hid hd; clear hd
 have hlen : s.data.toList.length = s.size := Array.length_toList
 have HLEN := Lib.hid hlen; clear hlen
 have h2 : ((s.size : Int) == 0) = false := beq_eq_false_iff_ne.2 (by omega)
 go_enter Tryz.func82, Tryz.ntmps82
 go_wp2_with fail
 go_loopw [6] (fun i wr => ∃ (z : Int) (v : Value), 0 - 1 ≤ z ∧ z < s.size ∧ i = .int .i64 z ∧ Hid (∀ c ∈ s.data.toList.drop (z + 1).toNat, dig c) ∧ SumRel (w.heap.size + 1) false (w.alloc (.cells #[.bool false, .slice none 0 0] NT)) (dgs s.data.toList (z + 1).toNat) v wr) (fun i _ => (intOf i + 1).toNat)
 case atStart => exact ⟨(s.size : Int) - 1, .slice none 0 0, by omega, by omega, (by first | rfl | (rw [hn]; rfl)), Lib.hid (by
  rw [show ((s.size : Int) - 1 + 1).toNat = s.data.toList.length from by rw [HLEN.out]; omega, List.drop_length]; simp), by
  rw [show ((s.size : Int) - 1 + 1).toNat = s.data.toList.length from by rw [HLEN.out]; omega, dgs_end]
  exact ⟨(Below.refl _ _).alloc (by simp) _, by simp, by simp [go_sem], by simp [go_sem], by simp [go_sem], by simp [go_sem], World.ownsRow_nil _ _ _ _⟩⟩
 case round =>
  obtain ⟨z, v, hz1', hz2', rfl, hall, R⟩ := hrel
  have hbl := R.below
  have hc0 := R.c0
  have hc1 := R.c1
  have hf1 := R.f1
  have r0 : wr.cell? ⟨w.heap.size, 0, none⟩ = some (.bool false) := by rw [hbl.cell (p := ⟨w.heap.size, 0, none⟩) (by simp)]; simp [go_sem]
  have r1 : wr.cell? ⟨w.heap.size, 1, none⟩ = some (.slice none 0 0) := by rw [hbl.cell (p := ⟨w.heap.size, 1, none⟩) (by simp)]; simp [go_sem]
  have g0 : wr.frozen? ⟨w.heap.size, 0, none⟩ = false := by rw [hbl.frozen (p := ⟨w.heap.size, 0, none⟩) (by simp)]; simp [go_sem]
  have g1 : wr.frozen? ⟨w.heap.size, 1, none⟩ = false := by rw [hbl.frozen (p := ⟨w.heap.size, 1, none⟩) (by simp)]; simp [go_sem]
  have hB : Below w.heap.size w wr := (below1 w _).trans (hbl.mono (by omega))
  have hsz := R.size
  have RR := Lib.hid R; clear R hbl
  by_cases hz : 0 ≤ z
  ·obtain ⟨m, rfl⟩ := Int.eq_ofNat_of_zero_le (show 0 ≤ z by omega)
   have hms : m < s.size := by omega
   have hms2 : m < s.data.toList.length := by rw [HLEN.out]; exact hms
   have hget : s.data.toList[m] = s[m] := rfl
   have HGET := Lib.hid hget; clear hget
   rw [show ((m : Int) + 1).toNat = m + 1 from by omega] at hall RR
   by_cases hdg : 48 ≤ s[m].toNat ∧ s[m].toNat ≤ 57
   ·obtain ⟨d1, d2⟩ := hdg
    have d1' : ¬ (s[m].toNat : Int) < 48 := by omega
    have d2' : ¬ 57 < (s[m].toNat : Int) := by omega
    have e1 : (s[m].toNat : Int) - 48 = ((s[m].toNat - 48 : Nat) : Int) := by omega
    have E1 := Lib.hid e1; clear e1
    have hl2 : (dgs s.data.toList (m + 1)).length ≤ 1000 := by rw [dgs_len, HLEN.out]; omega
    have RO : wr.drew.ownsRow (w.heap.size + 1 + 1) 5 1 v (dgs s.data.toList (m + 1)).length (vs (dgs s.data.toList (m + 1))) := RR.out.own
    have RO := Lib.hid RO
    have enew := World.new_ne wr _ hc1
    have wu : IntKind.u8.wrap ((s[m].toNat : Int) - 48) = (s[m].toNat : Int) - 48 := IntWalk.u8_in _ (by omega)
    go_upto_region 13 with fail
    go_region_law (
     refine step_append_own rfl (.tmp 52) (.tmp 57) 82 rfl (w.heap.size + 1 + 1) 5 i0 (.int .u8 0) 1 1 Tryz.underlying82 hi hz0 hz1 hz2 rfl (by decide) v (dgs s.data.toList (m + 1)).length (vs (dgs s.data.toList (m + 1))) rfl (RO.out.alloc _) ⟨wr.heap.size, 0, none⟩ 1 1 [.int .u8 ((s[m].toNat : Int) - 48)] rfl rfl (fun j u h => one_new wr _ _ j u h) (by intro u hu; simp at hu; subst hu; rfl) (by unfold maxLen; omega) (by omega) (size_newN _ 1 _ _ RR.out.size) ?_
     intro v' w' hown' hgrow _
     obtain ⟨a', cap', rfl⟩ := own_shape hown'
     rw [E1.out] at hown'
     obtain ⟨hR, k1, kf1⟩ := RR.out.round (((Below.refl _ _).alloc (by simp) _).drew) hgrow _ hown'
     have HR := Lib.hid hR; clear hR
     clear hown' hgrow)
    all_goals
     go_wp2_with fail
     go_roundw
     case rel => exact ⟨(m : Int) - 1, _, by omega, by omega, by simp, Lib.hid (by
      rw [show ((m : Int) - 1 + 1).toNat = m from by omega]
      exact all_step _ m hms2 hall.out (by rw [HGET.out]; unfold dig; exact ⟨d1, d2⟩)), by
      rw [show ((m : Int) - 1 + 1).toNat = m from by omega, dgs_step _ m hms2, HGET.out]
      exact HR.out⟩
     case measure => simp [intOf]
   ·have hB2 := (hB.setCell (p := ⟨w.heap.size, 0, none⟩) (Nat.le_refl _) (.bool false)).setCell (p := ⟨w.heap.size, 1, none⟩) (Nat.le_refl _) (.slice none 0 0)
    have HB := Lib.hid hB2; clear hB hB2
    have hx : s[m].toNat < 48 ∨ (¬ s[m].toNat < 48 ∧ 57 < s[m].toNat) := by omega
    clear hdg
    rcases hx with x1 | ⟨x1, x2⟩
    ·have x1' : (s[m].toNat : Int) < 48 := by omega
     clear x1
     go_wp2_with fail
     exact bodyPost_ret (v := .tuple #[.agg #[.bool false, .slice none 0 0], .bool false]) (by simp [results, Tryz.results82, go_sem, r0, r1]) rfl ⟨rfl, HB.out⟩
    ·have x1' : ¬ (s[m].toNat : Int) < 48 := by omega
     have x2' : 57 < (s[m].toNat : Int) := by omega
     clear x1 x2
     go_wp2_with fail
     exact bodyPost_ret (v := .tuple #[.agg #[.bool false, .slice none 0 0], .bool false]) (by simp [results, Tryz.results82, go_sem, r0, r1]) rfl ⟨rfl, HB.out⟩

  ·exact absurd (by have h := hall.out; rw [show (z + 1).toNat = 0 from by omega] at h; exact h) HDIG.out

set_option maxRecDepth 100000 in
set_option maxHeartbeats 2000000 in
theorem rparse_zok (s : ByteArray)  (hn : s.size = 1) (h0 : ((s[0].toNat : Int) == 45) = false) (h1 : ((s[0].toNat : Int) == 48) = true) (hd : ∀ c ∈ s.data.toList.drop 0, dig c) (w : World) :
 Calls Tryz.prog 82 #[.string s] w (ReadAs (nv false (dgs s.data.toList 0)) w) := by
 obtain ⟨i0, hi, hz0, hz1, hz2⟩ := info_parts info5
 have HDIG := Lib.hid hd; clear hd
 have hlen : s.data.toList.length = s.size := Array.length_toList
 have HLEN := Lib.hid hlen; clear hlen
 have h2 : ((s.size : Int) == 0) = false := beq_eq_false_iff_ne.2 (by omega)
 have h3 : ¬ 1 < (s.size : Int) := by omega
 go_enter Tryz.func82, Tryz.ntmps82
 go_wp2_with fail
 go_loopw [6] (fun i wr => ∃ (z : Int) (v : Value), 0 - 1 ≤ z ∧ z < s.size ∧ i = .int .i64 z ∧ Hid (∀ c ∈ s.data.toList.drop (z + 1).toNat, dig c) ∧ SumRel (w.heap.size + 1) false (w.alloc (.cells #[.bool false, .slice none 0 0] NT)) (dgs s.data.toList (z + 1).toNat) v wr) (fun i _ => (intOf i + 1).toNat)
 case atStart => exact ⟨(s.size : Int) - 1, .slice none 0 0, by omega, by omega, (by first | rfl | (rw [hn]; rfl)), Lib.hid (by
  rw [show ((s.size : Int) - 1 + 1).toNat = s.data.toList.length from by rw [HLEN.out]; omega, List.drop_length]; simp), by
  rw [show ((s.size : Int) - 1 + 1).toNat = s.data.toList.length from by rw [HLEN.out]; omega, dgs_end]
  exact ⟨(Below.refl _ _).alloc (by simp) _, by simp, by simp [go_sem], by simp [go_sem], by simp [go_sem], by simp [go_sem], World.ownsRow_nil _ _ _ _⟩⟩
 case round =>
  obtain ⟨z, v, hz1', hz2', rfl, hall, R⟩ := hrel
  have hbl := R.below
  have hc0 := R.c0
  have hc1 := R.c1
  have hf1 := R.f1
  have r0 : wr.cell? ⟨w.heap.size, 0, none⟩ = some (.bool false) := by rw [hbl.cell (p := ⟨w.heap.size, 0, none⟩) (by simp)]; simp [go_sem]
  have r1 : wr.cell? ⟨w.heap.size, 1, none⟩ = some (.slice none 0 0) := by rw [hbl.cell (p := ⟨w.heap.size, 1, none⟩) (by simp)]; simp [go_sem]
  have g0 : wr.frozen? ⟨w.heap.size, 0, none⟩ = false := by rw [hbl.frozen (p := ⟨w.heap.size, 0, none⟩) (by simp)]; simp [go_sem]
  have g1 : wr.frozen? ⟨w.heap.size, 1, none⟩ = false := by rw [hbl.frozen (p := ⟨w.heap.size, 1, none⟩) (by simp)]; simp [go_sem]
  have hB : Below w.heap.size w wr := (below1 w _).trans (hbl.mono (by omega))
  have hsz := R.size
  have RR := Lib.hid R; clear R hbl
  by_cases hz : 0 ≤ z
  ·obtain ⟨m, rfl⟩ := Int.eq_ofNat_of_zero_le (show 0 ≤ z by omega)
   have hms : m < s.size := by omega
   have hms2 : m < s.data.toList.length := by rw [HLEN.out]; exact hms
   have hget : s.data.toList[m] = s[m] := rfl
   have HGET := Lib.hid hget; clear hget
   rw [show ((m : Int) + 1).toNat = m + 1 from by omega] at hall RR
   by_cases hdg : 48 ≤ s[m].toNat ∧ s[m].toNat ≤ 57
   ·obtain ⟨d1, d2⟩ := hdg
    have d1' : ¬ (s[m].toNat : Int) < 48 := by omega
    have d2' : ¬ 57 < (s[m].toNat : Int) := by omega
    have e1 : (s[m].toNat : Int) - 48 = ((s[m].toNat - 48 : Nat) : Int) := by omega
    have E1 := Lib.hid e1; clear e1
    have hl2 : (dgs s.data.toList (m + 1)).length ≤ 1000 := by rw [dgs_len, HLEN.out]; omega
    have RO : wr.drew.ownsRow (w.heap.size + 1 + 1) 5 1 v (dgs s.data.toList (m + 1)).length (vs (dgs s.data.toList (m + 1))) := RR.out.own
    have RO := Lib.hid RO
    have enew := World.new_ne wr _ hc1
    have wu : IntKind.u8.wrap ((s[m].toNat : Int) - 48) = (s[m].toNat : Int) - 48 := IntWalk.u8_in _ (by omega)
    go_upto_region 13 with fail
    go_region_law (
     refine step_append_own rfl (.tmp 52) (.tmp 57) 82 rfl (w.heap.size + 1 + 1) 5 i0 (.int .u8 0) 1 1 Tryz.underlying82 hi hz0 hz1 hz2 rfl (by decide) v (dgs s.data.toList (m + 1)).length (vs (dgs s.data.toList (m + 1))) rfl (RO.out.alloc _) ⟨wr.heap.size, 0, none⟩ 1 1 [.int .u8 ((s[m].toNat : Int) - 48)] rfl rfl (fun j u h => one_new wr _ _ j u h) (by intro u hu; simp at hu; subst hu; rfl) (by unfold maxLen; omega) (by omega) (size_newN _ 1 _ _ RR.out.size) ?_
     intro v' w' hown' hgrow _
     obtain ⟨a', cap', rfl⟩ := own_shape hown'
     rw [E1.out] at hown'
     obtain ⟨hR, k1, kf1⟩ := RR.out.round (((Below.refl _ _).alloc (by simp) _).drew) hgrow _ hown'
     have HR := Lib.hid hR; clear hR
     clear hown' hgrow)
    all_goals
     go_wp2_with fail
     go_roundw
     case rel => exact ⟨(m : Int) - 1, _, by omega, by omega, by simp, Lib.hid (by
      rw [show ((m : Int) - 1 + 1).toNat = m from by omega]
      exact all_step _ m hms2 hall.out (by rw [HGET.out]; unfold dig; exact ⟨d1, d2⟩)), by
      rw [show ((m : Int) - 1 + 1).toNat = m from by omega, dgs_step _ m hms2, HGET.out]
      exact HR.out⟩
     case measure => simp [intOf]
   ·exact absurd (HDIG.out _ (mem_drop_at _ 0 m (by omega) hms2)) (by rw [HGET.out]; exact hdg)
  ·obtain ⟨a, cap, rfl, hD, hf⟩ := own_digs RR.out.own (by rw [dgs_len, HLEN.out]; omega)
   rw [show (z + 1).toNat = 0 from by omega] at hD hall
   have h9 := dgs_nine _ _ hall.out
   have ct := fun (w1 : World) (h : Digs w1 (.slice a (dgs s.data.toList 0).length cap) (dgs s.data.toList 0)) => ref_trim false _ (dgs s.data.toList 0) w1 h h9
   have CT := Lib.hid ct; clear ct
   have HD := Lib.hid hD; clear hD
   have HF := Lib.hid hf; clear hf
   have HB := Lib.hid hB; clear hB
   rw [show (z + 1).toNat = 0 from by omega] at hc1
   go_wp2_with fail
   refine (CT.out _ HD.out).mono ?_
   rintro e w1 ⟨⟨a1, cap1, rfl, hd1, hf1⟩, hb1⟩
   have D1 := Lib.hid hd1; clear hd1
   have c0 : w1.cell? ⟨w.heap.size, 0, none⟩ = some (.bool false) := by rw [hb1.cell (p := ⟨w.heap.size, 0, none⟩) (show w.heap.size < wr.heap.size by omega)]; exact r0
   have c1 : w1.cell? ⟨w.heap.size, 1, none⟩ = some (.slice none 0 0) := by rw [hb1.cell (p := ⟨w.heap.size, 1, none⟩) (show w.heap.size < wr.heap.size by omega)]; exact r1
   have f0 : w1.frozen? ⟨w.heap.size, 0, none⟩ = false := by rw [hb1.frozen (p := ⟨w.heap.size, 0, none⟩) (show w.heap.size < wr.heap.size by omega)]; exact g0
   have f1 : w1.frozen? ⟨w.heap.size, 1, none⟩ = false := by rw [hb1.frozen (p := ⟨w.heap.size, 1, none⟩) (show w.heap.size < wr.heap.size by omega)]; exact g1
   have hb0 := HB.out.trans (hb1.mono (by omega))
   clear hb1 r0 r1 g0 g1
   have HF1 := Lib.hid hf1; clear hf1
   go_wp2_with fail
   refine bodyPost_ret (v := .tuple #[.agg #[.bool (decide (nv false (dgs s.data.toList 0) < 0)), .slice a1 (dg (nv false (dgs s.data.toList 0)).natAbs).length cap1], .bool true]) (by simp [results, Tryz.results82, go_sem, c0, c1]) rfl ?_
   have hne : ∀ p, a1 = some p → ¬ p.block = w.heap.size := fun p hp => by
    rcases HF1.out p hp with h | h
    ·omega
    ·cases a with
     | none => simp [sb] at h
     | some q => simp [sb] at h; have := HF.out q rfl; omega
   exact ⟨⟨a1, cap1, rfl, (D1.out.setCell hne).setCell hne⟩, (hb0.setCell (p := ⟨w.heap.size, 0, none⟩) (Nat.le_refl _) _).setCell (p := ⟨w.heap.size, 1, none⟩) (Nat.le_refl _) _⟩

end Go.Proofs.YteddfolhpoikcaaGreatDoor.R1
namespace Go.Proofs.YteddfolhpoikcaaGreatDoor.R1
open Go.RowKit

theorem sub_step {A B ds : List Nat} {c c2 d X Y : Nat} (h : vl ds + 10 ^ ds.length * vl (A.drop ds.length) + Y = X + 10 ^ ds.length * (c + vl (B.drop ds.length))) (hd : d + at0 B ds.length + c = at0 A ds.length + 10 * c2) :
 vl (ds ++ [d]) + 10 ^ (ds ++ [d]).length * vl (A.drop (ds.length + 1)) + Y = X + 10 ^ (ds ++ [d]).length * (c2 + vl (B.drop (ds.length + 1))) := by
 rw [vl_snoc, List.length_append, List.length_singleton, Nat.pow_succ]
 rw [vl_drop A ds.length, vl_drop B ds.length] at h
 generalize at0 A ds.length = x at *
 generalize at0 B ds.length = y at *
 generalize vl (A.drop (ds.length + 1)) = P at *
 generalize vl (B.drop (ds.length + 1)) = Q at *
 generalize 10 ^ ds.length = p at *
 rw [Nat.mul_assoc, Nat.mul_assoc]
 have e1 : p * (x + 10 * P) = p * x + p * (10 * P) := Nat.mul_add _ _ _
 have e2 : p * (c + (y + 10 * Q)) = p * c + p * y + p * (10 * Q) := by rw [Nat.mul_add, Nat.mul_add, ← Nat.add_assoc]
 have e3 : p * d + p * y + p * c = p * x + p * (10 * c2) := by rw [← Nat.mul_add, ← Nat.mul_add, ← Nat.mul_add, hd]
 have e4 : p * (10 * (c2 + Q)) = p * (10 * c2) + p * (10 * Q) := by rw [Nat.mul_add 10, Nat.mul_add]
 rw [e1, e2] at h
 rw [e4]
 omega
theorem sub_end {ds : List Nat} {c q X Y : Nat} (h9 : ∀ d ∈ ds, d ≤ 9) (h : vl ds + Y = X + 10 ^ ds.length * (c + q)) (hXY : Y ≤ X) : vl ds = X - Y := by
 have h1 := vl_lt ds h9
 rcases Nat.eq_zero_or_pos (c + q) with e | e
 ·rw [e] at h; simp at h; omega
 ·have : 10 ^ ds.length * 1 ≤ 10 ^ ds.length * (c + q) := Nat.mul_le_mul_left _ e
  omega

set_option maxRecDepth 100000 in
set_option maxHeartbeats 1000000 in
theorem add_sub (x y : Int) (va vb : Value) (w : World) (ha : Digs w va (dg x.natAbs)) (hb : Digs w vb (dg y.natAbs)) (hs : ¬ decide (x < 0) = decide (y < 0)) (hge : y.natAbs ≤ x.natAbs) (hx : (dg x.natAbs).length ≤ 1000) (_hy : (dg y.natAbs).length ≤ 1000) :
 Calls Tryz.prog 57 #[.agg #[.bool (decide (x < 0)), va], .agg #[.bool (decide (y < 0)), vb]] w (SomeNum (x + y) w []) := by
 obtain ⟨i0, hi, hz0, hz1, hz2⟩ := info_parts info5
 obtain ⟨p1, q1, rfl⟩ := ha.head
 obtain ⟨p2, q2, rfl⟩ := hb.head
 have HA := Lib.hid ha; clear ha
 have HB := Lib.hid hb; clear hb
 have HS := Lib.hid hs; clear hs
 generalize hA : dg x.natAbs = A at *
 generalize hB : dg y.natAbs = B at *
 have H1 := Lib.hid hA; clear hA
 have H2 := Lib.hid hB; clear hB
 have cA : Can A := by rw [← H1.out]; exact Can.dg _
 have cB : Can B := by rw [← H2.out]; exact Can.dg _
 have hless : lessB A B = false := by unfold lessB; rw [← H1.out, ← H2.out, vl_dg, vl_dg, decide_eq_false (by omega)]
 have hcl := fun (w1 : World) (ha : Digs w1 (.slice p1 A.length q1) A) (hb : Digs w1 (.slice p2 B.length q2) B) => less_any _ _ A B w1 ha hb cA cB
 rw [hless] at hcl
 have HCL := Lib.hid hcl; clear hcl hless
 generalize hneg : decide (x < 0) = neg at *
 have HN := Lib.hid hneg; clear hneg
 generalize hneg2 : decide (y < 0) = neg2 at *
 have HN2 := Lib.hid hneg2; clear hneg2
 have hne : (neg == neg2) = false := by have := HS.out; cases neg <;> cases neg2 <;> first | rfl | exact absurd rfl this
 go_enter Tryz.func57, Tryz.ntmps57
 go_wp2_with fail
 refine (HCL.out _ (HA.out.below (below3 w _ _ _)) (HB.out.below (below3 w _ _ _))).mono ?_
 rintro e w1 ⟨rfl, hb1⟩
 have hk := hb1.size
 simp only [World.size_alloc] at hk
 have HB1 := Lib.hid hb1
 have m0 : w1.cell? ⟨w.heap.size, 0, none⟩ = some (.bool neg) := by rw [hb1.cell (p := ⟨w.heap.size, 0, none⟩) (by simp <;> omega)]; simp [go_sem]
 clear hb1
 go_wp2_with fail
 go_loopw [10, 11] (fun c i wr => ∃ (cn : Nat) (ds : List Nat) (v : Value), c = .int .i64 cn ∧ i = .int .i64 ds.length ∧ cn ≤ 1 ∧ ds.length ≤ A.length ∧ Hid ((∀ d ∈ ds, d ≤ 9) ∧ vl ds + 10 ^ ds.length * vl (A.drop ds.length) + y.natAbs = x.natAbs + 10 ^ ds.length * (cn + vl (B.drop ds.length))) ∧ SumRel w1.heap.size neg w1 ds v wr) (fun c i _ => A.length - (intOf i).toNat)
 case atStart => exact ⟨0, [], .slice none 0 0, rfl, rfl, by omega, by simp, Lib.hid ⟨by simp, by rw [← H1.out, ← H2.out]; simp [vl, vl_dg]⟩, ⟨(Below.refl _ _).alloc (Nat.le_refl _) _, by simp, by simp [go_sem], by simp [go_sem], by simp [go_sem], by simp [go_sem], World.ownsRow_nil _ _ _ _⟩⟩
 case round =>
  obtain ⟨cn, ds, v, rfl, rfl, hc, hl, hv, R⟩ := hrel
  have hbl := R.below
  have hA1 : wr.cell? ⟨w.heap.size, 1, none⟩ = some (.slice p1 A.length q1) := by rw [hbl.cell (p := ⟨w.heap.size, 1, none⟩) (show w.heap.size < w1.heap.size by omega), HB1.out.cell (p := ⟨w.heap.size, 1, none⟩) (by simp <;> omega)]; simp [go_sem]
  have hB1 : wr.cell? ⟨w.heap.size + 1, 1, none⟩ = some (.slice p2 B.length q2) := by rw [hbl.cell (p := ⟨w.heap.size + 1, 1, none⟩) (show w.heap.size + 1 < w1.heap.size by omega), HB1.out.cell (p := ⟨w.heap.size + 1, 1, none⟩) (by simp <;> omega)]; simp [go_sem]
  have hc1 := R.c1
  by_cases t1 : ds.length < A.length
  ·have hbw : Below w.heap.size w wr := (below3 w _ _ _).trans ((HB1.out.mono (by simp; omega)).trans (hbl.mono (by omega)))
   have dA : Digs wr (.slice p1 A.length q1) A := HA.out.below hbw
   have dB : Digs wr (.slice p2 B.length q2) B := HB.out.below hbw
   have a9 : ∀ d ∈ A, d ≤ 9 := by rw [← H1.out]; exact dg_le _
   have b9 : ∀ d ∈ B, d ≤ 9 := by rw [← H2.out]; exact dg_le _
   have kA := at0_le A a9 ds.length
   have kB := at0_le B b9 ds.length
   have cA := fun nq => digit_q (.slice p1 A.length q1) A ds.length (wr.drewN nq) (dA.below (below_drewN (Below.refl _ _) nq)) (by omega) a9
   have cB := fun nq => digit_q (.slice p2 B.length q2) B ds.length (wr.drewN nq) (dB.below (below_drewN (Below.refl _ _) nq)) (by omega) b9
   have CA := Lib.hid cA; clear cA
   have CB := Lib.hid cB; clear cB
   clear a9 b9 dA dB hbw
   have RR := Lib.hid R; clear R
   generalize hda : at0 A ds.length = da at *
   generalize hdb : at0 B ds.length = db at *
   have HDA := Lib.hid hda; clear hda
   have HDB := Lib.hid hdb; clear hdb
   have ws1 : IntKind.i64.wrap ((da : Int) - (db : Int)) = (da : Int) - (db : Int) := IntWalk.i64_in _ (by omega)
   have ws2 : IntKind.i64.wrap ((da : Int) - (db : Int) - (cn : Int)) = (da : Int) - (db : Int) - (cn : Int) := IntWalk.i64_in _ (by omega)
   have RO : ∀ nq, (wr.drewN nq).ownsRow (w1.heap.size + 1) 5 1 v ds.length (vs ds) := fun nq => RR.out.own
   have RO := Lib.hid RO
   have bs : -10 ≤ (da : Int) - (db : Int) - (cn : Int) ∧ (da : Int) - (db : Int) - (cn : Int) ≤ 9 := by omega
   by_cases hneg3 : (da : Int) - (db : Int) - (cn : Int) < 0
   ·have e1 : (da : Int) - (db : Int) - (cn : Int) + 10 = (((da + 10 - db - cn) : Nat) : Int) := by omega
    have E1 := Lib.hid e1; clear e1
    go_wp2_with fail
    go_quiet ((first | (go_at_call 74; with_reducible exact Calls.quiet_of_same (CA.out _)) | (go_at_call 74; with_reducible exact Calls.quiet_of_same (CB.out _))))
    clear ws1 ws2
    generalize hs3 : (da : Int) - (db : Int) - (cn : Int) = s at *
    have HS3 := Lib.hid hs3; clear hs3
    obtain ⟨bs1, bs2⟩ := bs
    go_wp2_with (at_builtin; refine wpList_append_own _ rfl (.tmp 96) (.tmp 99) 82 rfl (w1.heap.size + 1) 5 i0 (.int .u8 0) 1 1 Tryz.underlying82 hi hz0 hz1 hz2 rfl (by decide) v ds.length (vs ds) rfl ((RO.out _).alloc _) ⟨wr.heap.size, 0, none⟩ 1 1 [.int .u8 (s + 10)] rfl rfl (one_newN _ _ _ _) (by intro u hu; simp at hu; subst hu; rfl) (by unfold maxLen; omega) (by omega) (size_newN _ _ _ _ RR.out.size) ?_)
    intro v' w' hown' hgrow _
    obtain ⟨a', cap', rfl⟩ := own_shape hown'
    rw [E1.out] at hown'
    obtain ⟨hR, k1, kf1⟩ := RR.out.round ((below_drewN (Below.refl _ _) _).alloc (by simp) _) hgrow _ hown'
    have HR := Lib.hid hR; clear hR
    clear hown' hgrow
    go_wp2_with fail
    go_roundw
    case rel => exact ⟨1, ds ++ [(da + 10 - db - cn)], _, rfl, by simp, by omega, by simp; omega, Lib.hid ⟨by
     intro d hd
     rcases List.mem_append.1 hd with h | h
     ·exact hv.out.1 d h
     ·simp at h; have := HS3.out; omega, by
     have := HS3.out
     have := sub_step (A := A) (B := B) (c2 := 1) (d := (da + 10 - db - cn)) hv.out.2 (by rw [HDA.out, HDB.out]; omega)
     rw [List.length_append, List.length_singleton] at this ⊢
     exact this⟩, HR.out⟩
    case measure => simp [intOf]; omega
   ·have e1 : (da : Int) - (db : Int) - (cn : Int) = (((da - db - cn) : Nat) : Int) := by omega
    have E1 := Lib.hid e1; clear e1
    go_wp2_with fail
    go_quiet ((first | (go_at_call 74; with_reducible exact Calls.quiet_of_same (CA.out _)) | (go_at_call 74; with_reducible exact Calls.quiet_of_same (CB.out _))))
    clear ws1 ws2
    generalize hs3 : (da : Int) - (db : Int) - (cn : Int) = s at *
    have HS3 := Lib.hid hs3; clear hs3
    obtain ⟨bs1, bs2⟩ := bs
    go_wp2_with (at_builtin; refine wpList_append_own _ rfl (.tmp 96) (.tmp 99) 82 rfl (w1.heap.size + 1) 5 i0 (.int .u8 0) 1 1 Tryz.underlying82 hi hz0 hz1 hz2 rfl (by decide) v ds.length (vs ds) rfl ((RO.out _).alloc _) ⟨wr.heap.size, 0, none⟩ 1 1 [.int .u8 s] rfl rfl (one_newN _ _ _ _) (by intro u hu; simp at hu; subst hu; rfl) (by unfold maxLen; omega) (by omega) (size_newN _ _ _ _ RR.out.size) ?_)
    intro v' w' hown' hgrow _
    obtain ⟨a', cap', rfl⟩ := own_shape hown'
    rw [E1.out] at hown'
    obtain ⟨hR, k1, kf1⟩ := RR.out.round ((below_drewN (Below.refl _ _) _).alloc (by simp) _) hgrow _ hown'
    have HR := Lib.hid hR; clear hR
    clear hown' hgrow
    go_wp2_with fail
    go_roundw
    case rel => exact ⟨0, ds ++ [(da - db - cn)], _, rfl, by simp, by omega, by simp; omega, Lib.hid ⟨by
     intro d hd
     rcases List.mem_append.1 hd with h | h
     ·exact hv.out.1 d h
     ·simp at h; have := HS3.out; omega, by
     have := HS3.out
     have := sub_step (A := A) (B := B) (c2 := 0) (d := (da - db - cn)) hv.out.2 (by rw [HDA.out, HDB.out]; omega)
     rw [List.length_append, List.length_singleton] at this ⊢
     exact this⟩, HR.out⟩
    case measure => simp [intOf]; omega
  ·have hlen : ds.length = A.length := by omega
   obtain ⟨a, cap, rfl, hD, hf⟩ := own_digs R.own (by omega)
   have hval : nv neg ds = x + y := by
    have h := hv.out.2
    rw [List.drop_eq_nil_of_le (by omega : A.length ≤ ds.length)] at h
    have h2 : vl ds = x.natAbs - y.natAbs := sub_end hv.out.1 (by simpa [vl] using h) hge
    have hn := HN.out
    have hn2 := HN2.out
    have hs := HS.out
    unfold nv
    rw [h2]
    cases neg with
    | true =>
     have g1 : x < 0 := of_decide_eq_true hn
     have g2 : ¬ y < 0 := by intro g; exact hs (by rw [← hn2, decide_eq_true g])
     simp; omega
    | false =>
     have g1 : ¬ x < 0 := of_decide_eq_false hn
     have g2 : y < 0 := Decidable.byContradiction fun g => hs (by rw [← hn2, decide_eq_false g])
     simp; omega
   have r0 : wr.cell? ⟨w.heap.size + 1 + 1, 0, none⟩ = some (.bool false) := by rw [hbl.cell (p := ⟨w.heap.size + 1 + 1, 0, none⟩) (show w.heap.size + 1 + 1 < w1.heap.size by omega), HB1.out.cell (p := ⟨w.heap.size + 1 + 1, 0, none⟩) (by simp <;> omega)]; simp [go_sem]
   have r1 : wr.cell? ⟨w.heap.size + 1 + 1, 1, none⟩ = some (.slice none 0 0) := by rw [hbl.cell (p := ⟨w.heap.size + 1 + 1, 1, none⟩) (show w.heap.size + 1 + 1 < w1.heap.size by omega), HB1.out.cell (p := ⟨w.heap.size + 1 + 1, 1, none⟩) (by simp <;> omega)]; simp [go_sem]
   have g0 : wr.frozen? ⟨w.heap.size + 1 + 1, 0, none⟩ = false := by rw [hbl.frozen (p := ⟨w.heap.size + 1 + 1, 0, none⟩) (show w.heap.size + 1 + 1 < w1.heap.size by omega), HB1.out.frozen (p := ⟨w.heap.size + 1 + 1, 0, none⟩) (by simp)]; simp [go_sem]
   have g1 : wr.frozen? ⟨w.heap.size + 1 + 1, 1, none⟩ = false := by rw [hbl.frozen (p := ⟨w.heap.size + 1 + 1, 1, none⟩) (show w.heap.size + 1 + 1 < w1.heap.size by omega), HB1.out.frozen (p := ⟨w.heap.size + 1 + 1, 1, none⟩) (by simp)]; simp [go_sem]
   have hsz := R.size
   have HB2 := Lib.hid (show Below w.heap.size w wr from (below3 w _ _ _).trans ((HB1.out.mono (by simp; omega)).trans (hbl.mono (by omega))))
   have ct := fun (w1 : World) (h : Digs w1 (.slice a ds.length cap) ds) => ref_trim neg _ ds w1 h hv.out.1
   rw [hval] at ct
   have CT := Lib.hid ct; clear ct
   have HD := Lib.hid hD; clear hD
   have HF := Lib.hid hf; clear hf
   have hc0 := R.c0
   clear R hval hbl hlen
   go_wp2_with fail
   refine (CT.out _ HD.out).mono ?_
   rintro e w2 ⟨⟨a1, cap1, rfl, hd1, hf1⟩, hb2⟩
   have D1 := Lib.hid hd1; clear hd1
   have c0 : w2.cell? ⟨w.heap.size + 1 + 1, 0, none⟩ = some (.bool false) := by rw [hb2.cell (p := ⟨w.heap.size + 1 + 1, 0, none⟩) (show w.heap.size + 1 + 1 < wr.heap.size by omega)]; exact r0
   have c1 : w2.cell? ⟨w.heap.size + 1 + 1, 1, none⟩ = some (.slice none 0 0) := by rw [hb2.cell (p := ⟨w.heap.size + 1 + 1, 1, none⟩) (show w.heap.size + 1 + 1 < wr.heap.size by omega)]; exact r1
   have f0 : w2.frozen? ⟨w.heap.size + 1 + 1, 0, none⟩ = false := by rw [hb2.frozen (p := ⟨w.heap.size + 1 + 1, 0, none⟩) (show w.heap.size + 1 + 1 < wr.heap.size by omega)]; exact g0
   have f1 : w2.frozen? ⟨w.heap.size + 1 + 1, 1, none⟩ = false := by rw [hb2.frozen (p := ⟨w.heap.size + 1 + 1, 1, none⟩) (show w.heap.size + 1 + 1 < wr.heap.size by omega)]; exact g1
   have hb0 := HB2.out.trans (hb2.mono (by omega))
   clear hb2 r0 r1 g0 g1
   have HF1 := Lib.hid hf1; clear hf1
   go_wp2_with fail
   refine bodyPost_ret (v := .agg #[.bool (decide (x + y < 0)), .slice a1 (dg (x + y).natAbs).length cap1]) (by simp [results, Tryz.results57, go_sem, c0, c1]) rfl ?_
   exact SomeNum.stored rfl hb0 (by omega) D1.out (fun p hp => .inl (by
    rcases HF1.out p hp with h | h
    ·omega
    ·cases a with
     | none => simp [sb] at h
     | some q => simp [sb] at h; have := HF.out q rfl; omega)) (fun _ h => by cases h)

set_option maxRecDepth 100000 in
set_option maxHeartbeats 1000000 in
theorem add_swap (x y : Int) (va vb : Value) (w : World) (ha : Digs w va (dg x.natAbs)) (hb : Digs w vb (dg y.natAbs)) (hs : ¬ decide (x < 0) = decide (y < 0)) (hlt : x.natAbs < y.natAbs) (hx : (dg x.natAbs).length ≤ 1000) (hy : (dg y.natAbs).length ≤ 1000) :
 Calls Tryz.prog 57 #[.agg #[.bool (decide (x < 0)), va], .agg #[.bool (decide (y < 0)), vb]] w (SomeNum (x + y) w []) := by
 obtain ⟨p1, q1, rfl⟩ := ha.head
 obtain ⟨p2, q2, rfl⟩ := hb.head
 have hcl := fun (w1 : World) (ha : Digs w1 (.slice p1 (dg x.natAbs).length q1) (dg x.natAbs)) (hb : Digs w1 (.slice p2 (dg y.natAbs).length q2) (dg y.natAbs)) => less_any _ _ (dg x.natAbs) (dg y.natAbs) w1 ha hb (Can.dg _) (Can.dg _)
 have hless : lessB (dg x.natAbs) (dg y.natAbs) = true := by unfold lessB; rw [vl_dg, vl_dg, decide_eq_true hlt]
 rw [hless] at hcl
 have HCL := Lib.hid hcl; clear hcl hless
 have hre := fun (w1 : World) (ha : Digs w1 (.slice p1 (dg x.natAbs).length q1) (dg x.natAbs)) (hb : Digs w1 (.slice p2 (dg y.natAbs).length q2) (dg y.natAbs)) => add_sub y x _ _ w1 hb ha (fun e => hs e.symm) (by omega) hy hx
 rw [Int.add_comm y x] at hre
 have HRE := Lib.hid hre; clear hre
 have HA := Lib.hid ha; clear ha
 have HB := Lib.hid hb; clear hb
 have hne : (decide (x < 0) == decide (y < 0)) = false := by cases h1 : decide (x < 0) <;> cases h2 : decide (y < 0) <;> first | rfl | (rw [h1, h2] at hs; exact absurd rfl hs)
 clear hs
 generalize decide (x < 0) = neg at *
 generalize decide (y < 0) = neg2 at *
 generalize dg x.natAbs = A at *
 generalize dg y.natAbs = B at *
 go_enter Tryz.func57, Tryz.ntmps57
 go_wp2_with fail
 refine (HCL.out _ (HA.out.below (below3 w _ _ _)) (HB.out.below (below3 w _ _ _))).mono ?_
 rintro e w1 ⟨rfl, hb1⟩
 have hk := hb1.size
 simp only [World.size_alloc] at hk
 have HB1 := Lib.hid hb1
 have m0 : w1.cell? ⟨w.heap.size, 0, none⟩ = some (.bool neg) := by rw [hb1.cell (p := ⟨w.heap.size, 0, none⟩) (by simp <;> omega)]; simp [go_sem]
 have m1 : w1.cell? ⟨w.heap.size, 1, none⟩ = some (.slice p1 A.length q1) := by rw [hb1.cell (p := ⟨w.heap.size, 1, none⟩) (by simp <;> omega)]; simp [go_sem]
 have m2 : w1.cell? ⟨w.heap.size + 1, 0, none⟩ = some (.bool neg2) := by rw [hb1.cell (p := ⟨w.heap.size + 1, 0, none⟩) (by simp <;> omega)]; simp [go_sem]
 have m3 : w1.cell? ⟨w.heap.size + 1, 1, none⟩ = some (.slice p2 B.length q2) := by rw [hb1.cell (p := ⟨w.heap.size + 1, 1, none⟩) (by simp <;> omega)]; simp [go_sem]
 clear hb1
 go_wp2_with fail
 refine (HRE.out _ (HA.out.below ((below3 w _ _ _).trans (HB1.out.mono (by simp; omega)))) (HB.out.below ((below3 w _ _ _).trans (HB1.out.mono (by simp; omega))))).mono ?_
 rintro e w2 ⟨⟨a1, cap1, rfl, hd1, hf1⟩, hb2⟩
 have D1 := Lib.hid hd1; clear hd1
 have hb02 := HB1.out.trans (hb2.mono (by simp; omega))
 have c0 : w2.cell? ⟨w.heap.size + 1 + 1, 0, none⟩ = some (.bool false) := by rw [hb02.cell (p := ⟨w.heap.size + 1 + 1, 0, none⟩) (by simp <;> omega)]; simp [go_sem]
 have c1 : w2.cell? ⟨w.heap.size + 1 + 1, 1, none⟩ = some (.slice none 0 0) := by rw [hb02.cell (p := ⟨w.heap.size + 1 + 1, 1, none⟩) (by simp <;> omega)]; simp [go_sem]
 have f0 : w2.frozen? ⟨w.heap.size + 1 + 1, 0, none⟩ = false := by rw [hb02.frozen (p := ⟨w.heap.size + 1 + 1, 0, none⟩) (by simp <;> omega)]; simp [go_sem]
 have f1 : w2.frozen? ⟨w.heap.size + 1 + 1, 1, none⟩ = false := by rw [hb02.frozen (p := ⟨w.heap.size + 1 + 1, 1, none⟩) (by simp <;> omega)]; simp [go_sem]
 have hb0 := (below3 w _ _ _).trans (hb02.mono (by simp; omega))
 clear hb2 hb02
 have HF1 := Lib.hid hf1; clear hf1
 go_wp2_with fail
 refine bodyPost_ret (v := .agg #[.bool (decide (x + y < 0)), .slice a1 (dg (x + y).natAbs).length cap1]) (by simp [results, Tryz.results57, go_sem, c0, c1]) rfl ?_
 exact SomeNum.stored rfl hb0 (by omega) D1.out (fun p hp => .inl (by
  rcases HF1.out p hp with h | h
  ·omega
  ·simp at h)) (fun _ h => by cases h)

theorem ref_add (x y : Int) (va vb : Value) (w : World) (ha : Digs w va (dg x.natAbs)) (hb : Digs w vb (dg y.natAbs)) (hx : (dg x.natAbs).length ≤ 1000) (hy : (dg y.natAbs).length ≤ 1000) :
 Calls Tryz.prog 57 #[.agg #[.bool (decide (x < 0)), va], .agg #[.bool (decide (y < 0)), vb]] w (SomeNum (x + y) w []) := by
 by_cases hs : decide (x < 0) = decide (y < 0)
 ·exact add_same x y va vb w ha hb hs hx hy
 ·by_cases h : y.natAbs ≤ x.natAbs
  ·exact add_sub x y va vb w ha hb hs h hx hy
  ·exact add_swap x y va vb w ha hb hs (by omega) hx hy
end Go.Proofs.YteddfolhpoikcaaGreatDoor.R1
namespace Go.Proofs.YteddfolhpoikcaaGreatDoor.R1
open Go.RowKit

def cmpI (x y : Int) : Int := if x < y then -1 else if y < x then 1 else 0

set_option maxRecDepth 100000 in
set_option maxHeartbeats 1000000 in
theorem ref_cmp (x y : Int) (va vb : Value) (w : World) (ha : Digs w va (dg x.natAbs)) (hb : Digs w vb (dg y.natAbs)) (hx : (dg x.natAbs).length ≤ 1000) (hy : (dg y.natAbs).length ≤ 1000) :
 Calls Tryz.prog 73 #[.agg #[.bool (decide (x < 0)), va], .agg #[.bool (decide (y < 0)), vb]] w fun e w' => e = .returned (.int .i64 (cmpI x y)) ∧ Below w.heap.size w w' := by
 obtain ⟨p1, q1, rfl⟩ := ha.head
 obtain ⟨p2, q2, rfl⟩ := hb.head
 have hneg := fun (w1 : World) (hb : Digs w1 (.slice p2 (dg y.natAbs).length q2) (dg y.natAbs)) => neg_any y _ w1 hb
 obtain ⟨z, hz⟩ : ∃ z, z = -y := ⟨_, rfl⟩
 have hyz : (dg z.natAbs).length ≤ 1000 := by rw [hz, Int.natAbs_neg]; exact hy
 rw [← hz] at hneg
 have hadd := fun (a : Option Addr) (cap : Nat) (w1 : World) (ha : Digs w1 (.slice p1 (dg x.natAbs).length q1) (dg x.natAbs)) (hb : Digs w1 (.slice a (dg z.natAbs).length cap) (dg z.natAbs)) => ref_add x z _ _ w1 ha hb hx hyz
 obtain ⟨d, hd⟩ : ∃ d, d = x + z := ⟨_, rfl⟩
 rw [← hd] at hadd
 have hxyd : d = x - y := by omega
 have HXYD := Lib.hid hxyd; clear hxyd hd hyz hz
 have HNEG := Lib.hid hneg; clear hneg
 have HADD := Lib.hid hadd; clear hadd
 have HA := Lib.hid ha; clear ha
 have HB := Lib.hid hb; clear hb
 go_enter Tryz.func73, Tryz.ntmps73
 go_upto_region 1 with fail
 go_cut [5] (fun s5 wx => ∃ a cap k, s5 = .pointer (some ⟨k, 0, none⟩) ∧ wx.cell? ⟨k, 0, none⟩ = some (.bool (decide (d < 0))) ∧ wx.cell? ⟨k, 1, none⟩ = some (.slice a (dg d.natAbs).length cap) ∧ Below w.heap.size w wx)
 case first =>
  have nn0 : ¬ w.heap.size = w.heap.size + 1 + 1 := by omega
  have nn1 : ¬ w.heap.size + 1 + 1 = w.heap.size := by omega
  go_region_held3 (fun w' => w'.cell? ⟨w.heap.size, 0, none⟩ = some (.bool (decide (x < 0))) ∧ w'.cell? ⟨w.heap.size, 1, none⟩ = some (.slice p1 (dg x.natAbs).length q1) ∧ w'.cell? ⟨w.heap.size + 1, 0, none⟩ = some (.bool (decide (y < 0))) ∧ w'.cell? ⟨w.heap.size + 1, 1, none⟩ = some (.slice p2 (dg y.natAbs).length q2)) (go_keep)
   (first
    | (go_at_call 59; (with_reducible show Calls _ _ _ (((w.alloc _).alloc _).drew) _); refine (HNEG.out (((w.alloc _).alloc _).drew) (HB.out.below ((below2 w _ _).drew))).mono ?_; rintro e w1 ⟨⟨a1, cap1, rfl, hd1, hf1⟩, hb1⟩; have D1 := Lib.hid hd1; clear hd1 hf1; have hb2 : Below w.heap.size w w1 := ((below2 w _ _).drew).trans (hb1.mono (by simp; omega)); have hz1 : w.heap.size + 1 + 1 ≤ w1.heap.size := (by have := hb1.size; simp at this; omega); have k0 : w1.cell? ⟨w.heap.size, 0, none⟩ = some (.bool (decide (x < 0))) := (by rw [hb1.cell (p := ⟨w.heap.size, 0, none⟩) (by simp <;> omega)]; simp [go_sem]); have k1 : w1.cell? ⟨w.heap.size, 1, none⟩ = some (.slice p1 (dg x.natAbs).length q1) := (by rw [hb1.cell (p := ⟨w.heap.size, 1, none⟩) (by simp <;> omega)]; simp [go_sem]); have k2 : w1.cell? ⟨w.heap.size + 1, 0, none⟩ = some (.bool (decide (y < 0))) := (by rw [hb1.cell (p := ⟨w.heap.size + 1, 0, none⟩) (by simp <;> omega)]; simp [go_sem]); have k3 : w1.cell? ⟨w.heap.size + 1, 1, none⟩ = some (.slice p2 (dg y.natAbs).length q2) := (by rw [hb1.cell (p := ⟨w.heap.size + 1, 1, none⟩) (by simp <;> omega)]; simp [go_sem]); have ek1 := World.new_ne w1 _ k0; have ek2 := World.new_ne w1 _ k2; clear hb1)
    | (go_at_call 59; (with_reducible show Calls _ _ _ ((((w.alloc _).alloc _).alloc _).drew) _); refine (HNEG.out ((((w.alloc _).alloc _).alloc _).drew) (HB.out.below ((below3 w _ _ _).drew))).mono ?_; rintro e w1 ⟨⟨a1, cap1, rfl, hd1, hf1⟩, hb1⟩; have D1 := Lib.hid hd1; clear hd1 hf1; have hb2 : Below w.heap.size w w1 := ((below3 w _ _ _).drew).trans (hb1.mono (by simp; omega)); have hz1 : w.heap.size + 1 + 1 ≤ w1.heap.size := (by have := hb1.size; simp at this; omega); have k0 : w1.cell? ⟨w.heap.size, 0, none⟩ = some (.bool (decide (x < 0))) := (by rw [hb1.cell (p := ⟨w.heap.size, 0, none⟩) (by simp <;> omega)]; simp [go_sem]); have k1 : w1.cell? ⟨w.heap.size, 1, none⟩ = some (.slice p1 (dg x.natAbs).length q1) := (by rw [hb1.cell (p := ⟨w.heap.size, 1, none⟩) (by simp <;> omega)]; simp [go_sem]); have k2 : w1.cell? ⟨w.heap.size + 1, 0, none⟩ = some (.bool (decide (y < 0))) := (by rw [hb1.cell (p := ⟨w.heap.size + 1, 0, none⟩) (by simp <;> omega)]; simp [go_sem]); have k3 : w1.cell? ⟨w.heap.size + 1, 1, none⟩ = some (.slice p2 (dg y.natAbs).length q2) := (by rw [hb1.cell (p := ⟨w.heap.size + 1, 1, none⟩) (by simp <;> omega)]; simp [go_sem]); have kz : w.heap.size + 1 + 1 < w1.heap.size := (by have := hb1.size; simp at this; omega); have kk0 : w1.cell? ⟨w.heap.size + 1 + 1, 0, none⟩ = some (.bool false) := (by rw [hb1.cell (p := ⟨w.heap.size + 1 + 1, 0, none⟩) (by simp)]; simp [go_sem]); have kf0 : w1.frozen? ⟨w.heap.size + 1 + 1, 0, none⟩ = false := (by rw [hb1.frozen (p := ⟨w.heap.size + 1 + 1, 0, none⟩) (by simp)]; simp [go_sem]); have kk1 : w1.cell? ⟨w.heap.size + 1 + 1, 1, none⟩ = some (.slice none 0 0) := (by rw [hb1.cell (p := ⟨w.heap.size + 1 + 1, 1, none⟩) (by simp)]; simp [go_sem]); have kf1 : w1.frozen? ⟨w.heap.size + 1 + 1, 1, none⟩ = false := (by rw [hb1.frozen (p := ⟨w.heap.size + 1 + 1, 1, none⟩) (by simp)]; simp [go_sem]); have ek1 := World.new_ne w1 _ k0; have ek2 := World.new_ne w1 _ k2; clear hb1)
    | (go_at_call 57; (with_reducible show Calls _ _ _ (w1.alloc _) _); refine (HADD.out _ _ (w1.alloc _) (HA.out.below (hb2.alloc (by omega) _)) (D1.out.below (below1 _ _))).mono ?_; rintro e w2 ⟨⟨a2, cap2, rfl, hd2, hf2⟩, hb3⟩; clear hd2 hf2; have hs3 : w1.heap.size ≤ w2.heap.size := (by have := hb3.size; first | exact this | (simp at this; omega)); have j0 : w2.cell? ⟨w.heap.size, 0, none⟩ = some (.bool (decide (x < 0))) := (by rw [hb3.cell (p := ⟨w.heap.size, 0, none⟩) (show w.heap.size < (w1.alloc _).heap.size by simp; omega), (below1 w1 _).cell (p := ⟨w.heap.size, 0, none⟩) (show w.heap.size < w1.heap.size by omega)]; exact k0); have j1 : w2.cell? ⟨w.heap.size, 1, none⟩ = some (.slice p1 (dg x.natAbs).length q1) := (by rw [hb3.cell (p := ⟨w.heap.size, 1, none⟩) (show w.heap.size < (w1.alloc _).heap.size by simp; omega), (below1 w1 _).cell (p := ⟨w.heap.size, 1, none⟩) (show w.heap.size < w1.heap.size by omega)]; exact k1); have j2 : w2.cell? ⟨w.heap.size + 1, 0, none⟩ = some (.bool (decide (y < 0))) := (by rw [hb3.cell (p := ⟨w.heap.size + 1, 0, none⟩) (show w.heap.size + 1 < (w1.alloc _).heap.size by simp; omega), (below1 w1 _).cell (p := ⟨w.heap.size + 1, 0, none⟩) (show w.heap.size + 1 < w1.heap.size by omega)]; exact k2); have j3 : w2.cell? ⟨w.heap.size + 1, 1, none⟩ = some (.slice p2 (dg y.natAbs).length q2) := (by rw [hb3.cell (p := ⟨w.heap.size + 1, 1, none⟩) (show w.heap.size + 1 < (w1.alloc _).heap.size by simp; omega), (below1 w1 _).cell (p := ⟨w.heap.size + 1, 1, none⟩) (show w.heap.size + 1 < w1.heap.size by omega)]; exact k3); have jm0 : w2.cell? ⟨w1.heap.size, 0, none⟩ = some (.bool false) := (by rw [hb3.cell (p := ⟨w1.heap.size, 0, none⟩) (by simp)]; simp [go_sem]); have jmf0 : w2.frozen? ⟨w1.heap.size, 0, none⟩ = false := (by rw [hb3.frozen (p := ⟨w1.heap.size, 0, none⟩) (by simp)]; simp [go_sem]); have jm1 : w2.cell? ⟨w1.heap.size, 1, none⟩ = some (.slice none 0 0) := (by rw [hb3.cell (p := ⟨w1.heap.size, 1, none⟩) (by simp)]; simp [go_sem]); have jmf1 : w2.frozen? ⟨w1.heap.size, 1, none⟩ = false := (by rw [hb3.frozen (p := ⟨w1.heap.size, 1, none⟩) (by simp)]; simp [go_sem]); have ej1 := World.new_ne w2 _ j0; have ej2 := World.new_ne w2 _ j2; have hb4 : Below w.heap.size w w2 := (hb2.alloc (by omega) _).trans (hb3.mono (by simp; omega)); clear hb3)
    | (have _tok := kk0; go_at_call 57; (with_reducible show Calls _ _ _ w1 _); refine (HADD.out _ _ (w1) (HA.out.below (hb2)) (D1.out)).mono ?_; rintro e w2 ⟨⟨a2, cap2, rfl, hd2, hf2⟩, hb3⟩; clear hd2 hf2; have hs3 : w1.heap.size ≤ w2.heap.size := hb3.size; have j0 : w2.cell? ⟨w.heap.size, 0, none⟩ = some (.bool (decide (x < 0))) := (by rw [hb3.cell (p := ⟨w.heap.size, 0, none⟩) (show w.heap.size < w1.heap.size by omega)]; exact k0); have j1 : w2.cell? ⟨w.heap.size, 1, none⟩ = some (.slice p1 (dg x.natAbs).length q1) := (by rw [hb3.cell (p := ⟨w.heap.size, 1, none⟩) (show w.heap.size < w1.heap.size by omega)]; exact k1); have j2 : w2.cell? ⟨w.heap.size + 1, 0, none⟩ = some (.bool (decide (y < 0))) := (by rw [hb3.cell (p := ⟨w.heap.size + 1, 0, none⟩) (show w.heap.size + 1 < w1.heap.size by omega)]; exact k2); have j3 : w2.cell? ⟨w.heap.size + 1, 1, none⟩ = some (.slice p2 (dg y.natAbs).length q2) := (by rw [hb3.cell (p := ⟨w.heap.size + 1, 1, none⟩) (show w.heap.size + 1 < w1.heap.size by omega)]; exact k3); have jj0 : w2.cell? ⟨w.heap.size + 1 + 1, 0, none⟩ = some (.bool false) := (by rw [hb3.cell (p := ⟨w.heap.size + 1 + 1, 0, none⟩) kz]; exact kk0); have jf0 : w2.frozen? ⟨w.heap.size + 1 + 1, 0, none⟩ = false := (by rw [hb3.frozen (p := ⟨w.heap.size + 1 + 1, 0, none⟩) kz]; exact kf0); have jj1 : w2.cell? ⟨w.heap.size + 1 + 1, 1, none⟩ = some (.slice none 0 0) := (by rw [hb3.cell (p := ⟨w.heap.size + 1 + 1, 1, none⟩) kz]; exact kk1); have jf1 : w2.frozen? ⟨w.heap.size + 1 + 1, 1, none⟩ = false := (by rw [hb3.frozen (p := ⟨w.heap.size + 1 + 1, 1, none⟩) kz]; exact kf1); have ej1 := World.new_ne w2 _ j0; have ej2 := World.new_ne w2 _ j2; have hb4 : Below w.heap.size w w2 := hb2.trans (hb3.mono hb2.size); clear hb3)
    | (go_at_call 57; (with_reducible show Calls _ _ _ w1 _); refine (HADD.out _ _ (w1) (HA.out.below (hb2)) (D1.out)).mono ?_; rintro e w2 ⟨⟨a2, cap2, rfl, hd2, hf2⟩, hb3⟩; clear hd2 hf2; have hs3 : w1.heap.size ≤ w2.heap.size := hb3.size; have j0 : w2.cell? ⟨w.heap.size, 0, none⟩ = some (.bool (decide (x < 0))) := (by rw [hb3.cell (p := ⟨w.heap.size, 0, none⟩) (show w.heap.size < w1.heap.size by omega)]; exact k0); have j1 : w2.cell? ⟨w.heap.size, 1, none⟩ = some (.slice p1 (dg x.natAbs).length q1) := (by rw [hb3.cell (p := ⟨w.heap.size, 1, none⟩) (show w.heap.size < w1.heap.size by omega)]; exact k1); have j2 : w2.cell? ⟨w.heap.size + 1, 0, none⟩ = some (.bool (decide (y < 0))) := (by rw [hb3.cell (p := ⟨w.heap.size + 1, 0, none⟩) (show w.heap.size + 1 < w1.heap.size by omega)]; exact k2); have j3 : w2.cell? ⟨w.heap.size + 1, 1, none⟩ = some (.slice p2 (dg y.natAbs).length q2) := (by rw [hb3.cell (p := ⟨w.heap.size + 1, 1, none⟩) (show w.heap.size + 1 < w1.heap.size by omega)]; exact k3); have ej1 := World.new_ne w2 _ j0; have ej2 := World.new_ne w2 _ j2; have hb4 : Below w.heap.size w w2 := hb2.trans (hb3.mono hb2.size); clear hb3))
  ·go_wp2_with fail
   go_meet
   exact ⟨a2, cap2, _, rfl, by simp [go_sem], by simp [go_sem], hb4.alloc hb4.size _⟩
  ·go_wp2_with fail
   go_meet
   exact ⟨a2, cap2, _, rfl, by simp [go_sem, jm0], by simp [go_sem, jm1], (hb4.setCell (p := ⟨w1.heap.size, 0, none⟩) (show w.heap.size ≤ w1.heap.size by omega) _).setCell (p := ⟨w1.heap.size, 1, none⟩) (show w.heap.size ≤ w1.heap.size by omega) _⟩
  ·go_wp2_with fail
   go_meet
   exact ⟨a2, cap2, _, rfl, by simp [go_sem, jj0], by simp [go_sem, jj1], (hb4.setCell (p := ⟨w.heap.size + 1 + 1, 0, none⟩) (show w.heap.size ≤ w.heap.size + 1 + 1 by omega) _).setCell (p := ⟨w.heap.size + 1 + 1, 1, none⟩) (show w.heap.size ≤ w.heap.size + 1 + 1 by omega) _⟩
 case rest =>
  obtain ⟨a, cap, k, rfl, h0, h1, hbl⟩ := hcut
  have hxyd := HXYD.out
  by_cases hd : d < 0
  ·rw [decide_eq_true hd] at h0
   have hr : cmpI x y = -1 := by unfold cmpI; rw [if_pos (by omega)]
   have HR := Lib.hid hr; clear hr hxyd hd h1
   go_wp2_with fail
   go_ret
   exact ⟨by rw [HR.out]; rfl, hbl⟩
  ·rw [decide_eq_false hd] at h0
   by_cases hz : d = 0
   ·have hl : (dg d.natAbs).length = 0 := by rw [hz]; simp [dg_zero]
    rw [hl] at h1
    have hr : cmpI x y = 0 := by unfold cmpI; rw [if_neg (by omega), if_neg (by omega)]
    have HR := Lib.hid hr; clear hr hxyd hd hl hz
    go_wp2_with fail
    go_ret
    exact ⟨by rw [HR.out]; rfl, hbl⟩
   ·have hl : 0 < (dg d.natAbs).length := by
     rcases Nat.eq_zero_or_pos (dg d.natAbs).length with e | e
     ·have := dg_nil.1 (List.length_eq_zero_iff.1 e)
      omega
     ·exact e
    generalize (dg d.natAbs).length = L at *
    have hr : cmpI x y = 1 := by unfold cmpI; rw [if_neg (by omega), if_pos (by omega)]
    have HR := Lib.hid hr; clear hr hxyd hd hz
    go_wp2_with fail
    go_ret
    exact ⟨by rw [HR.out]; rfl, hbl⟩
end Go.Proofs.YteddfolhpoikcaaGreatDoor.R1
namespace Go.Proofs.YteddfolhpoikcaaGreatDoor.R1
open Go.RowKit

theorem vl_drop_le (l : List Nat) (i : Nat) : vl (l.drop i) ≤ vl l := by
 rw [vl_split l i]
 have : 1 ≤ 10 ^ (l.take i).length := Nat.pos_of_ne_zero (by simp)
 have h2 : 1 * vl (l.drop i) ≤ 10 ^ (l.take i).length * vl (l.drop i) := Nat.mul_le_mul_right _ this
 omega
theorem of_least {l : Int} (hl : l = -9223372036854775808) (w : World) : Calls Tryz.prog 58 #[.int .i64 (-9223372036854775808)] w (SomeNum l w []) := by subst hl; exact of_any _ w (by omega) (by omega)
theorem of_most {l : Int} (hl : l = 9223372036854775807) (w : World) : Calls Tryz.prog 58 #[.int .i64 9223372036854775807] w (SomeNum l w []) := by subst hl; exact of_any _ w (by omega) (by omega)
theorem len_i64 (n : Int) (h0 : -9223372036854775808 ≤ n) (h1 : n ≤ 9223372036854775807) : (dg n.natAbs).length ≤ 1000 := by
 have := dg_length_le n.natAbs 19 (by omega); omega

set_option maxRecDepth 100000 in
set_option maxHeartbeats 1000000 in
theorem int_low (x : Int) (va : Value) (w : World) (hd : Digs w va (dg x.natAbs)) (hx : (dg x.natAbs).length ≤ 1000) (ho : x < -9223372036854775808) :
 Calls Tryz.prog 56 #[.agg #[.bool (decide (x < 0)), va]] w fun e w' => e = .returned (.tuple #[.int .i64 0, .bool false]) ∧ Below w.heap.size w w' := by
 obtain ⟨p, q, rfl⟩ := hd.head
 obtain ⟨l, hl⟩ : ∃ l : Int, l = -9223372036854775808 := ⟨_, rfl⟩
 obtain ⟨m, hm⟩ : ∃ m : Int, m = 9223372036854775807 := ⟨_, rfl⟩
 have ll := len_i64 l (by omega) (by omega)
 have lm := len_i64 m (by omega) (by omega)
 have hofl := fun w1 => of_least hl w1
 have hofm := fun w1 => of_most hm w1
 have HL := Lib.hid hofl; clear hofl
 have HM := Lib.hid hofm; clear hofm
 have hcl := fun (a : Option Addr) (cap : Nat) (w1 : World) (h1 : Digs w1 (.slice p (dg x.natAbs).length q) (dg x.natAbs)) (h2 : Digs w1 (.slice a (dg l.natAbs).length cap) (dg l.natAbs)) => ref_cmp x l _ _ w1 h1 h2 hx ll
 have hcm := fun (a : Option Addr) (cap : Nat) (w1 : World) (h1 : Digs w1 (.slice p (dg x.natAbs).length q) (dg x.natAbs)) (h2 : Digs w1 (.slice a (dg m.natAbs).length cap) (dg m.natAbs)) => ref_cmp x m _ _ w1 h1 h2 hx lm
 rw [show cmpI x l = -1 from if_pos (by omega)] at hcl
 have HCL := Lib.hid hcl; clear hcl
 have HCM := Lib.hid hcm; clear hcm
 have HD := Lib.hid hd; clear hd
 clear hl hm
 go_enter Tryz.func56, Tryz.ntmps56
 go_wp2_with fail
 refine (HL.out _).mono ?_
 rintro e w1 ⟨⟨a1, cap1, rfl, hd1, _⟩, hb1⟩
 have D1 := Lib.hid hd1; clear hd1
 have hz1 : w.heap.size + 1 ≤ w1.heap.size := by have := hb1.size; simp at this; omega
 have k0 : w1.cell? ⟨w.heap.size, 0, none⟩ = some (.bool (decide (x < 0))) := by rw [hb1.cell (p := ⟨w.heap.size, 0, none⟩) (by simp)]; simp [go_sem]
 have k1 : w1.cell? ⟨w.heap.size, 1, none⟩ = some (.slice p (dg x.natAbs).length q) := by rw [hb1.cell (p := ⟨w.heap.size, 1, none⟩) (by simp)]; simp [go_sem]
 have hB1 : Below w.heap.size w w1 := (below1 w _).trans (hb1.mono (by simp))
 clear hb1
 go_wp2_with fail
 refine (HM.out _).mono ?_
 rintro e w2 ⟨⟨a2, cap2, rfl, hd2, _⟩, hb2⟩
 have D2 := Lib.hid hd2; clear hd2
 have hz2 : w1.heap.size + 1 ≤ w2.heap.size := by have := hb2.size; simp at this; omega
 have m0 : w2.cell? ⟨w.heap.size, 0, none⟩ = some (.bool (decide (x < 0))) := by rw [hb2.cell (p := ⟨w.heap.size, 0, none⟩) (by simp; omega), (below1 w1 _).cell (p := ⟨w.heap.size, 0, none⟩) (show w.heap.size < w1.heap.size by omega)]; exact k0
 have m1 : w2.cell? ⟨w.heap.size, 1, none⟩ = some (.slice p (dg x.natAbs).length q) := by rw [hb2.cell (p := ⟨w.heap.size, 1, none⟩) (by simp; omega), (below1 w1 _).cell (p := ⟨w.heap.size, 1, none⟩) (show w.heap.size < w1.heap.size by omega)]; exact k1
 have m2 : w2.cell? ⟨w1.heap.size, 0, none⟩ = some (.bool (decide (l < 0))) := by rw [hb2.cell (p := ⟨w1.heap.size, 0, none⟩) (by simp)]; simp [go_sem]
 have m3 : w2.cell? ⟨w1.heap.size, 1, none⟩ = some (.slice a1 (dg l.natAbs).length cap1) := by rw [hb2.cell (p := ⟨w1.heap.size, 1, none⟩) (by simp)]; simp [go_sem]
 have E1 := Lib.hid (D1.out.below ((below1 w1 _).trans (hb2.mono (by simp))))
 have hB2 : Below w.heap.size w w2 := hB1.trans ((below1 w1 _ |>.mono (by omega)).trans (hb2.mono (by simp; omega)))
 clear hb2 D1 hB1 k0 k1
 have q0 : (w2.alloc (.cells #[.bool (decide (m < 0)), .slice a2 (dg m.natAbs).length cap2] NT)).cell? ⟨w.heap.size, 0, none⟩ = some (.bool (decide (x < 0))) := by rw [(below1 w2 _).cell (p := ⟨w.heap.size, 0, none⟩) (show w.heap.size < w2.heap.size by omega)]; exact m0
 have q1 : (w2.alloc (.cells #[.bool (decide (m < 0)), .slice a2 (dg m.natAbs).length cap2] NT)).cell? ⟨w.heap.size, 1, none⟩ = some (.slice p (dg x.natAbs).length q) := by rw [(below1 w2 _).cell (p := ⟨w.heap.size, 1, none⟩) (show w.heap.size < w2.heap.size by omega)]; exact m1
 have q2 : (w2.alloc (.cells #[.bool (decide (m < 0)), .slice a2 (dg m.natAbs).length cap2] NT)).cell? ⟨w1.heap.size, 0, none⟩ = some (.bool (decide (l < 0))) := by rw [(below1 w2 _).cell (p := ⟨w1.heap.size, 0, none⟩) (show w1.heap.size < w2.heap.size by omega)]; exact m2
 have q3 : (w2.alloc (.cells #[.bool (decide (m < 0)), .slice a2 (dg m.natAbs).length cap2] NT)).cell? ⟨w1.heap.size, 1, none⟩ = some (.slice a1 (dg l.natAbs).length cap1) := by rw [(below1 w2 _).cell (p := ⟨w1.heap.size, 1, none⟩) (show w1.heap.size < w2.heap.size by omega)]; exact m3
 go_wp2_with fail
 refine (HCL.out _ _ _ (HD.out.below (hB2.alloc (by omega) _)) (E1.out.below (below1 _ _))).mono ?_
 rintro e w3 ⟨rfl, hb3⟩
 have hz3 : w2.heap.size + 1 ≤ w3.heap.size := by have := hb3.size; simp at this; omega
 have n0 : w3.cell? ⟨w.heap.size, 0, none⟩ = some (.bool (decide (x < 0))) := by rw [hb3.cell (p := ⟨w.heap.size, 0, none⟩) (by simp; omega), (below1 w2 _).cell (p := ⟨w.heap.size, 0, none⟩) (show w.heap.size < w2.heap.size by omega)]; exact m0
 have n1 : w3.cell? ⟨w.heap.size, 1, none⟩ = some (.slice p (dg x.natAbs).length q) := by rw [hb3.cell (p := ⟨w.heap.size, 1, none⟩) (by simp; omega), (below1 w2 _).cell (p := ⟨w.heap.size, 1, none⟩) (show w.heap.size < w2.heap.size by omega)]; exact m1
 have n2 : w3.cell? ⟨w2.heap.size, 0, none⟩ = some (.bool (decide (m < 0))) := by rw [hb3.cell (p := ⟨w2.heap.size, 0, none⟩) (by simp)]; simp [go_sem]
 have n3 : w3.cell? ⟨w2.heap.size, 1, none⟩ = some (.slice a2 (dg m.natAbs).length cap2) := by rw [hb3.cell (p := ⟨w2.heap.size, 1, none⟩) (by simp)]; simp [go_sem]
 have hB3 : Below w.heap.size w w3 := (hB2.alloc (by omega) _).trans (hb3.mono (by simp; omega))
 have E2 := Lib.hid (D2.out.below ((below1 w2 _).trans (hb3.mono (by simp))))
 clear hb3 D2 E1 hB2 m0 m1 m2 m3 q0 q1 q2 q3
 go_wp2_with fail
 go_ret2
 exact ⟨rfl, hB3⟩

set_option maxRecDepth 100000 in
set_option maxHeartbeats 1000000 in
theorem int_high (x : Int) (va : Value) (w : World) (hd : Digs w va (dg x.natAbs)) (hx : (dg x.natAbs).length ≤ 1000) (ho : 9223372036854775807 < x) :
 Calls Tryz.prog 56 #[.agg #[.bool (decide (x < 0)), va]] w fun e w' => e = .returned (.tuple #[.int .i64 0, .bool false]) ∧ Below w.heap.size w w' := by
 obtain ⟨p, q, rfl⟩ := hd.head
 obtain ⟨l, hl⟩ : ∃ l : Int, l = -9223372036854775808 := ⟨_, rfl⟩
 obtain ⟨m, hm⟩ : ∃ m : Int, m = 9223372036854775807 := ⟨_, rfl⟩
 have ll := len_i64 l (by omega) (by omega)
 have lm := len_i64 m (by omega) (by omega)
 have hofl := fun w1 => of_least hl w1
 have hofm := fun w1 => of_most hm w1
 have HL := Lib.hid hofl; clear hofl
 have HM := Lib.hid hofm; clear hofm
 have hcl := fun (a : Option Addr) (cap : Nat) (w1 : World) (h1 : Digs w1 (.slice p (dg x.natAbs).length q) (dg x.natAbs)) (h2 : Digs w1 (.slice a (dg l.natAbs).length cap) (dg l.natAbs)) => ref_cmp x l _ _ w1 h1 h2 hx ll
 have hcm := fun (a : Option Addr) (cap : Nat) (w1 : World) (h1 : Digs w1 (.slice p (dg x.natAbs).length q) (dg x.natAbs)) (h2 : Digs w1 (.slice a (dg m.natAbs).length cap) (dg m.natAbs)) => ref_cmp x m _ _ w1 h1 h2 hx lm
 rw [show cmpI x l = 1 from by unfold cmpI; rw [if_neg (by omega), if_pos (by omega)]] at hcl
 rw [show cmpI x m = 1 from by unfold cmpI; rw [if_neg (by omega), if_pos (by omega)]] at hcm
 have HCL := Lib.hid hcl; clear hcl
 have HCM := Lib.hid hcm; clear hcm
 have HD := Lib.hid hd; clear hd
 clear hl hm
 go_enter Tryz.func56, Tryz.ntmps56
 go_wp2_with fail
 refine (HL.out _).mono ?_
 rintro e w1 ⟨⟨a1, cap1, rfl, hd1, _⟩, hb1⟩
 have D1 := Lib.hid hd1; clear hd1
 have hz1 : w.heap.size + 1 ≤ w1.heap.size := by have := hb1.size; simp at this; omega
 have k0 : w1.cell? ⟨w.heap.size, 0, none⟩ = some (.bool (decide (x < 0))) := by rw [hb1.cell (p := ⟨w.heap.size, 0, none⟩) (by simp)]; simp [go_sem]
 have k1 : w1.cell? ⟨w.heap.size, 1, none⟩ = some (.slice p (dg x.natAbs).length q) := by rw [hb1.cell (p := ⟨w.heap.size, 1, none⟩) (by simp)]; simp [go_sem]
 have hB1 : Below w.heap.size w w1 := (below1 w _).trans (hb1.mono (by simp))
 clear hb1
 go_wp2_with fail
 refine (HM.out _).mono ?_
 rintro e w2 ⟨⟨a2, cap2, rfl, hd2, _⟩, hb2⟩
 have D2 := Lib.hid hd2; clear hd2
 have hz2 : w1.heap.size + 1 ≤ w2.heap.size := by have := hb2.size; simp at this; omega
 have m0 : w2.cell? ⟨w.heap.size, 0, none⟩ = some (.bool (decide (x < 0))) := by rw [hb2.cell (p := ⟨w.heap.size, 0, none⟩) (by simp; omega), (below1 w1 _).cell (p := ⟨w.heap.size, 0, none⟩) (show w.heap.size < w1.heap.size by omega)]; exact k0
 have m1 : w2.cell? ⟨w.heap.size, 1, none⟩ = some (.slice p (dg x.natAbs).length q) := by rw [hb2.cell (p := ⟨w.heap.size, 1, none⟩) (by simp; omega), (below1 w1 _).cell (p := ⟨w.heap.size, 1, none⟩) (show w.heap.size < w1.heap.size by omega)]; exact k1
 have m2 : w2.cell? ⟨w1.heap.size, 0, none⟩ = some (.bool (decide (l < 0))) := by rw [hb2.cell (p := ⟨w1.heap.size, 0, none⟩) (by simp)]; simp [go_sem]
 have m3 : w2.cell? ⟨w1.heap.size, 1, none⟩ = some (.slice a1 (dg l.natAbs).length cap1) := by rw [hb2.cell (p := ⟨w1.heap.size, 1, none⟩) (by simp)]; simp [go_sem]
 have E1 := Lib.hid (D1.out.below ((below1 w1 _).trans (hb2.mono (by simp))))
 have hB2 : Below w.heap.size w w2 := hB1.trans ((below1 w1 _ |>.mono (by omega)).trans (hb2.mono (by simp; omega)))
 clear hb2 D1 hB1 k0 k1
 have q0 : (w2.alloc (.cells #[.bool (decide (m < 0)), .slice a2 (dg m.natAbs).length cap2] NT)).cell? ⟨w.heap.size, 0, none⟩ = some (.bool (decide (x < 0))) := by rw [(below1 w2 _).cell (p := ⟨w.heap.size, 0, none⟩) (show w.heap.size < w2.heap.size by omega)]; exact m0
 have q1 : (w2.alloc (.cells #[.bool (decide (m < 0)), .slice a2 (dg m.natAbs).length cap2] NT)).cell? ⟨w.heap.size, 1, none⟩ = some (.slice p (dg x.natAbs).length q) := by rw [(below1 w2 _).cell (p := ⟨w.heap.size, 1, none⟩) (show w.heap.size < w2.heap.size by omega)]; exact m1
 have q2 : (w2.alloc (.cells #[.bool (decide (m < 0)), .slice a2 (dg m.natAbs).length cap2] NT)).cell? ⟨w1.heap.size, 0, none⟩ = some (.bool (decide (l < 0))) := by rw [(below1 w2 _).cell (p := ⟨w1.heap.size, 0, none⟩) (show w1.heap.size < w2.heap.size by omega)]; exact m2
 have q3 : (w2.alloc (.cells #[.bool (decide (m < 0)), .slice a2 (dg m.natAbs).length cap2] NT)).cell? ⟨w1.heap.size, 1, none⟩ = some (.slice a1 (dg l.natAbs).length cap1) := by rw [(below1 w2 _).cell (p := ⟨w1.heap.size, 1, none⟩) (show w1.heap.size < w2.heap.size by omega)]; exact m3
 go_wp2_with fail
 refine (HCL.out _ _ _ (HD.out.below (hB2.alloc (by omega) _)) (E1.out.below (below1 _ _))).mono ?_
 rintro e w3 ⟨rfl, hb3⟩
 have hz3 : w2.heap.size + 1 ≤ w3.heap.size := by have := hb3.size; simp at this; omega
 have n0 : w3.cell? ⟨w.heap.size, 0, none⟩ = some (.bool (decide (x < 0))) := by rw [hb3.cell (p := ⟨w.heap.size, 0, none⟩) (by simp; omega), (below1 w2 _).cell (p := ⟨w.heap.size, 0, none⟩) (show w.heap.size < w2.heap.size by omega)]; exact m0
 have n1 : w3.cell? ⟨w.heap.size, 1, none⟩ = some (.slice p (dg x.natAbs).length q) := by rw [hb3.cell (p := ⟨w.heap.size, 1, none⟩) (by simp; omega), (below1 w2 _).cell (p := ⟨w.heap.size, 1, none⟩) (show w.heap.size < w2.heap.size by omega)]; exact m1
 have n2 : w3.cell? ⟨w2.heap.size, 0, none⟩ = some (.bool (decide (m < 0))) := by rw [hb3.cell (p := ⟨w2.heap.size, 0, none⟩) (by simp)]; simp [go_sem]
 have n3 : w3.cell? ⟨w2.heap.size, 1, none⟩ = some (.slice a2 (dg m.natAbs).length cap2) := by rw [hb3.cell (p := ⟨w2.heap.size, 1, none⟩) (by simp)]; simp [go_sem]
 have hB3 : Below w.heap.size w w3 := (hB2.alloc (by omega) _).trans (hb3.mono (by simp; omega))
 have E2 := Lib.hid (D2.out.below ((below1 w2 _).trans (hb3.mono (by simp))))
 clear hb3 D2 E1 hB2 m0 m1 m2 m3 q0 q1 q2 q3
 go_wp2_with fail
 refine (HCM.out _ _ _ (HD.out.below hB3) E2.out).mono ?_
 rintro e w4 ⟨rfl, hb4⟩
 have hB4 := hB3.trans (hb4.mono (by omega))
 go_wp2_with fail
 go_ret2
 exact ⟨rfl, hB4⟩

set_option maxRecDepth 100000 in
set_option maxHeartbeats 1000000 in
theorem int_in (x : Int) (va : Value) (w : World) (hd : Digs w va (dg x.natAbs)) (hx : (dg x.natAbs).length ≤ 1000) (h0 : -9223372036854775808 ≤ x) (h1 : x ≤ 9223372036854775807) :
 Calls Tryz.prog 56 #[.agg #[.bool (decide (x < 0)), va]] w fun e w' => e = .returned (.tuple #[.int .i64 x, .bool true]) ∧ Below w.heap.size w w' := by
 obtain ⟨p, q, rfl⟩ := hd.head
 obtain ⟨l, hl⟩ : ∃ l : Int, l = -9223372036854775808 := ⟨_, rfl⟩
 obtain ⟨m, hm⟩ : ∃ m : Int, m = 9223372036854775807 := ⟨_, rfl⟩
 have ll := len_i64 l (by omega) (by omega)
 have lm := len_i64 m (by omega) (by omega)
 have hofl := fun w1 => of_least hl w1
 have hofm := fun w1 => of_most hm w1
 have HL := Lib.hid hofl; clear hofl
 have HM := Lib.hid hofm; clear hofm
 have hcl := fun (a : Option Addr) (cap : Nat) (w1 : World) (h1 : Digs w1 (.slice p (dg x.natAbs).length q) (dg x.natAbs)) (h2 : Digs w1 (.slice a (dg l.natAbs).length cap) (dg l.natAbs)) => ref_cmp x l _ _ w1 h1 h2 hx ll
 have hcm := fun (a : Option Addr) (cap : Nat) (w1 : World) (h1 : Digs w1 (.slice p (dg x.natAbs).length q) (dg x.natAbs)) (h2 : Digs w1 (.slice a (dg m.natAbs).length cap) (dg m.natAbs)) => ref_cmp x m _ _ w1 h1 h2 hx lm
 have hc1 : 0 ≤ cmpI x l := by unfold cmpI; rw [if_neg (by omega)]; split <;> omega
 have hc2 : cmpI x m ≤ 0 := by
  unfold cmpI
  by_cases h : x < m
  ·rw [if_pos h]; omega
  ·rw [if_neg h, if_neg (by omega)]; omega
 generalize cmpI x l = c1 at *
 generalize cmpI x m = c2 at *
 have hv := vl_dg x.natAbs
 have h9 := dg_le x.natAbs
 have hxx : x < 0 ∨ 0 ≤ x := by omega
 have HCL := Lib.hid hcl; clear hcl
 have HCM := Lib.hid hcm; clear hcm
 have HD := Lib.hid hd; clear hd
 clear hl hm
 go_enter Tryz.func56, Tryz.ntmps56
 go_wp2_with fail
 refine (HL.out _).mono ?_
 rintro e w1 ⟨⟨a1, cap1, rfl, hd1, _⟩, hb1⟩
 have D1 := Lib.hid hd1; clear hd1
 have hz1 : w.heap.size + 1 ≤ w1.heap.size := by have := hb1.size; simp at this; omega
 have k0 : w1.cell? ⟨w.heap.size, 0, none⟩ = some (.bool (decide (x < 0))) := by rw [hb1.cell (p := ⟨w.heap.size, 0, none⟩) (by simp)]; simp [go_sem]
 have k1 : w1.cell? ⟨w.heap.size, 1, none⟩ = some (.slice p (dg x.natAbs).length q) := by rw [hb1.cell (p := ⟨w.heap.size, 1, none⟩) (by simp)]; simp [go_sem]
 have hB1 : Below w.heap.size w w1 := (below1 w _).trans (hb1.mono (by simp))
 clear hb1
 go_wp2_with fail
 refine (HM.out _).mono ?_
 rintro e w2 ⟨⟨a2, cap2, rfl, hd2, _⟩, hb2⟩
 have D2 := Lib.hid hd2; clear hd2
 have hz2 : w1.heap.size + 1 ≤ w2.heap.size := by have := hb2.size; simp at this; omega
 have m0 : w2.cell? ⟨w.heap.size, 0, none⟩ = some (.bool (decide (x < 0))) := by rw [hb2.cell (p := ⟨w.heap.size, 0, none⟩) (by simp; omega), (below1 w1 _).cell (p := ⟨w.heap.size, 0, none⟩) (show w.heap.size < w1.heap.size by omega)]; exact k0
 have m1 : w2.cell? ⟨w.heap.size, 1, none⟩ = some (.slice p (dg x.natAbs).length q) := by rw [hb2.cell (p := ⟨w.heap.size, 1, none⟩) (by simp; omega), (below1 w1 _).cell (p := ⟨w.heap.size, 1, none⟩) (show w.heap.size < w1.heap.size by omega)]; exact k1
 have m2 : w2.cell? ⟨w1.heap.size, 0, none⟩ = some (.bool (decide (l < 0))) := by rw [hb2.cell (p := ⟨w1.heap.size, 0, none⟩) (by simp)]; simp [go_sem]
 have m3 : w2.cell? ⟨w1.heap.size, 1, none⟩ = some (.slice a1 (dg l.natAbs).length cap1) := by rw [hb2.cell (p := ⟨w1.heap.size, 1, none⟩) (by simp)]; simp [go_sem]
 have E1 := Lib.hid (D1.out.below ((below1 w1 _).trans (hb2.mono (by simp))))
 have hB2 : Below w.heap.size w w2 := hB1.trans ((below1 w1 _ |>.mono (by omega)).trans (hb2.mono (by simp; omega)))
 clear hb2 D1 hB1 k0 k1
 have q0 : (w2.alloc (.cells #[.bool (decide (m < 0)), .slice a2 (dg m.natAbs).length cap2] NT)).cell? ⟨w.heap.size, 0, none⟩ = some (.bool (decide (x < 0))) := by rw [(below1 w2 _).cell (p := ⟨w.heap.size, 0, none⟩) (show w.heap.size < w2.heap.size by omega)]; exact m0
 have q1 : (w2.alloc (.cells #[.bool (decide (m < 0)), .slice a2 (dg m.natAbs).length cap2] NT)).cell? ⟨w.heap.size, 1, none⟩ = some (.slice p (dg x.natAbs).length q) := by rw [(below1 w2 _).cell (p := ⟨w.heap.size, 1, none⟩) (show w.heap.size < w2.heap.size by omega)]; exact m1
 have q2 : (w2.alloc (.cells #[.bool (decide (m < 0)), .slice a2 (dg m.natAbs).length cap2] NT)).cell? ⟨w1.heap.size, 0, none⟩ = some (.bool (decide (l < 0))) := by rw [(below1 w2 _).cell (p := ⟨w1.heap.size, 0, none⟩) (show w1.heap.size < w2.heap.size by omega)]; exact m2
 have q3 : (w2.alloc (.cells #[.bool (decide (m < 0)), .slice a2 (dg m.natAbs).length cap2] NT)).cell? ⟨w1.heap.size, 1, none⟩ = some (.slice a1 (dg l.natAbs).length cap1) := by rw [(below1 w2 _).cell (p := ⟨w1.heap.size, 1, none⟩) (show w1.heap.size < w2.heap.size by omega)]; exact m3
 go_wp2_with fail
 refine (HCL.out _ _ _ (HD.out.below (hB2.alloc (by omega) _)) (E1.out.below (below1 _ _))).mono ?_
 rintro e w3 ⟨rfl, hb3⟩
 have hz3 : w2.heap.size + 1 ≤ w3.heap.size := by have := hb3.size; simp at this; omega
 have n0 : w3.cell? ⟨w.heap.size, 0, none⟩ = some (.bool (decide (x < 0))) := by rw [hb3.cell (p := ⟨w.heap.size, 0, none⟩) (by simp; omega), (below1 w2 _).cell (p := ⟨w.heap.size, 0, none⟩) (show w.heap.size < w2.heap.size by omega)]; exact m0
 have n1 : w3.cell? ⟨w.heap.size, 1, none⟩ = some (.slice p (dg x.natAbs).length q) := by rw [hb3.cell (p := ⟨w.heap.size, 1, none⟩) (by simp; omega), (below1 w2 _).cell (p := ⟨w.heap.size, 1, none⟩) (show w.heap.size < w2.heap.size by omega)]; exact m1
 have n2 : w3.cell? ⟨w2.heap.size, 0, none⟩ = some (.bool (decide (m < 0))) := by rw [hb3.cell (p := ⟨w2.heap.size, 0, none⟩) (by simp)]; simp [go_sem]
 have n3 : w3.cell? ⟨w2.heap.size, 1, none⟩ = some (.slice a2 (dg m.natAbs).length cap2) := by rw [hb3.cell (p := ⟨w2.heap.size, 1, none⟩) (by simp)]; simp [go_sem]
 have hB3 : Below w.heap.size w w3 := (hB2.alloc (by omega) _).trans (hb3.mono (by simp; omega))
 have E2 := Lib.hid (D2.out.below ((below1 w2 _).trans (hb3.mono (by simp))))
 clear hb3 D2 E1 hB2 m0 m1 m2 m3 q0 q1 q2 q3
 go_wp2_with fail
 refine (HCM.out _ _ _ (HD.out.below hB3) E2.out).mono ?_
 rintro e w4 ⟨rfl, hb4⟩
 have hB4 := hB3.trans (hb4.mono (by omega))
 have o0 : w4.cell? ⟨w.heap.size, 0, none⟩ = some (.bool (decide (x < 0))) := by rw [hb4.cell (p := ⟨w.heap.size, 0, none⟩) (show w.heap.size < w3.heap.size by omega)]; exact n0
 have o1 : w4.cell? ⟨w.heap.size, 1, none⟩ = some (.slice p (dg x.natAbs).length q) := by rw [hb4.cell (p := ⟨w.heap.size, 1, none⟩) (show w.heap.size < w3.heap.size by omega)]; exact n1
 have HDD := Lib.hid (HD.out.below hB4)
 clear hb4 n0 n1 n2 n3 E2 hB3 HL HM HCL HCM
 have HV := Lib.hid hv; clear hv
 have H9 := Lib.hid h9; clear h9
 generalize dg x.natAbs = D at *
 rcases hxx with hxx | hxx
 ·have hb0 : decide (x < 0) = true := decide_eq_true hxx
  rw [hb0] at o0
  clear hb0
  go_wp2_with fail
  go_loop [6, 7] (fun n i => ∃ z : Int, -1 ≤ z ∧ z < D.length ∧ i = .int .i64 z ∧ n = .int .i64 (-(vl (D.drop (z + 1).toNat) : Int))) (fun _ i => (intOf i + 1).toNat)
  case atStart => exact ⟨(D.length : Int) - 1, by omega, by omega, rfl, by rw [show ((D.length : Int) - 1 + 1).toNat = D.length from by omega, List.drop_length]; rfl⟩
  case round =>
   obtain ⟨z, hz1', hz2', rfl, rfl⟩ := hrel
   by_cases hz : 0 ≤ z
   ·obtain ⟨k, rfl⟩ := Int.eq_ofNat_of_zero_le hz
    obtain ⟨b, cap, hs, _, _, _, _, hcells⟩ := HDD.out.slice (by omega)
    cases hs
    have cc := hcells k (by omega)
    clear hcells
    have k9 := at0_le D H9.out k
    have hst := vl_drop D k
    have hle := vl_drop_le D k
    have hvv := HV.out
    rw [show ((k : Int) + 1).toNat = k + 1 from by omega]
    have hfin : (10 * -(vl (D.drop (k + 1)) : Int) - (at0 D k : Int)) = -(vl (D.drop k) : Int) := by omega
    have HFIN := Lib.hid hfin; clear hfin
    have w1b : -9223372036854775808 ≤ 10 * -(vl (D.drop (k + 1)) : Int) ∧ 10 * -(vl (D.drop (k + 1)) : Int) ≤ 9223372036854775807 := by omega
    have w2b : -9223372036854775808 ≤ 10 * -(vl (D.drop (k + 1)) : Int) - (at0 D k : Int) ∧ 10 * -(vl (D.drop (k + 1)) : Int) - (at0 D k : Int) ≤ 9223372036854775807 := by omega
    obtain ⟨wa1, wa2⟩ := w1b
    obtain ⟨wb1, wb2⟩ := w2b
    clear hst hle hvv
    generalize vl (D.drop (k + 1)) = V at *
    go_wp2_with fail
    go_round
    case rel => exact ⟨(k : Int) - 1, by omega, by omega, rfl, by rw [show ((k : Int) - 1 + 1).toNat = k from by omega, ← HFIN.out]⟩
    case measure => simp [intOf] <;> omega
   ·have hz3 : z = -1 := by omega
    subst hz3
    have hfin : -(vl (D.drop ((-1 : Int) + 1).toNat) : Int) = x := by
     have hvv := HV.out
     show -(vl D : Int) = x
     omega
    rw [hfin]
    clear hfin
    go_wp2_with fail
    go_ret2
    exact ⟨rfl, hB4⟩
 ·have hb0 : decide (x < 0) = false := decide_eq_false (by omega)
  rw [hb0] at o0
  clear hb0
  go_wp2_with fail
  go_loop [6, 7] (fun n i => ∃ z : Int, -1 ≤ z ∧ z < D.length ∧ i = .int .i64 z ∧ n = .int .i64 ((vl (D.drop (z + 1).toNat) : Int))) (fun _ i => (intOf i + 1).toNat)
  case atStart => exact ⟨(D.length : Int) - 1, by omega, by omega, rfl, by rw [show ((D.length : Int) - 1 + 1).toNat = D.length from by omega, List.drop_length]; rfl⟩
  case round =>
   obtain ⟨z, hz1', hz2', rfl, rfl⟩ := hrel
   by_cases hz : 0 ≤ z
   ·obtain ⟨k, rfl⟩ := Int.eq_ofNat_of_zero_le hz
    obtain ⟨b, cap, hs, _, _, _, _, hcells⟩ := HDD.out.slice (by omega)
    cases hs
    have cc := hcells k (by omega)
    clear hcells
    have k9 := at0_le D H9.out k
    have hst := vl_drop D k
    have hle := vl_drop_le D k
    have hvv := HV.out
    rw [show ((k : Int) + 1).toNat = k + 1 from by omega]
    have hfin : (10 * (vl (D.drop (k + 1)) : Int) + (at0 D k : Int)) = (vl (D.drop k) : Int) := by omega
    have HFIN := Lib.hid hfin; clear hfin
    have w1b : -9223372036854775808 ≤ 10 * (vl (D.drop (k + 1)) : Int) ∧ 10 * (vl (D.drop (k + 1)) : Int) ≤ 9223372036854775807 := by omega
    have w2b : -9223372036854775808 ≤ 10 * (vl (D.drop (k + 1)) : Int) + (at0 D k : Int) ∧ 10 * (vl (D.drop (k + 1)) : Int) + (at0 D k : Int) ≤ 9223372036854775807 := by omega
    obtain ⟨wa1, wa2⟩ := w1b
    obtain ⟨wb1, wb2⟩ := w2b
    clear hst hle hvv
    generalize vl (D.drop (k + 1)) = V at *
    go_wp2_with fail
    go_round
    case rel => exact ⟨(k : Int) - 1, by omega, by omega, rfl, by rw [show ((k : Int) - 1 + 1).toNat = k from by omega, ← HFIN.out]⟩
    case measure => simp [intOf] <;> omega
   ·have hz3 : z = -1 := by omega
    subst hz3
    have hfin : (vl (D.drop ((-1 : Int) + 1).toNat) : Int) = x := by
     have hvv := HV.out
     show (vl D : Int) = x
     omega
    rw [hfin]
    clear hfin
    go_wp2_with fail
    go_ret2
    exact ⟨rfl, hB4⟩

theorem int_out (x : Int) (va : Value) (w : World) (hd : Digs w va (dg x.natAbs)) (hx : (dg x.natAbs).length ≤ 1000) (ho : ¬ (-9223372036854775808 ≤ x ∧ x ≤ 9223372036854775807)) :
 Calls Tryz.prog 56 #[.agg #[.bool (decide (x < 0)), va]] w fun e w' => e = .returned (.tuple #[.int .i64 0, .bool false]) ∧ Below w.heap.size w w' := by
 by_cases h : x < -9223372036854775808
 ·exact int_low x va w hd hx h
 ·exact int_high x va w hd hx (by omega)

end Go.Proofs.YteddfolhpoikcaaGreatDoor.R1
namespace Go.Proofs.YteddfolhpoikcaaGreatDoor.R1
open Go.RowKit

theorem ref_parse_no (l : List UInt8) (hm : l.length ≤ 1000) (h : ¬ Form l) (w : World) :
 Calls Tryz.prog 82 #[.string ⟨⟨l⟩⟩] w (Refused w) := by
 match l, hm, h with
 | [], _, _ => exact rparse_empty w
 | c :: r, hm, h =>
  by_cases c45 : c.toNat = 45
  ·have hc : c = 45 := UInt8.toNat_inj.1 c45
   match r, hm, h with
   | [], _, _ => subst hc; exact rparse_minus w
   | d :: t, hm, h =>
    by_cases d48 : d.toNat = 48
    ·exact rparse_mlead ⟨⟨c :: d :: t⟩⟩ (by show 1 < (c :: d :: t).length; simp) hm (beq_iff_eq.2 (by show (c.toNat : Int) = 45; omega)) (beq_iff_eq.2 (by show (d.toNat : Int) = 48; omega)) w
    ·exact rparse_mbad ⟨⟨c :: d :: t⟩⟩ hm (by show 1 < (c :: d :: t).length; simp) (beq_iff_eq.2 (by show (c.toNat : Int) = 45; omega)) (beq_eq_false_iff_ne.2 (by show ¬ (d.toNat : Int) = 48; omega)) (fun hall => h (.inr ⟨d, t, .inr (by rw [hc]), d48, hall⟩)) w
  ·by_cases c48 : c.toNat = 48
   ·match r, hm, h with
    | [], _, h => exact absurd (.inl (by rw [show c = 48 from UInt8.toNat_inj.1 c48])) h
    | d :: t, hm, h => exact rparse_lead ⟨⟨c :: d :: t⟩⟩ (by show 1 < (c :: d :: t).length; simp) hm (beq_eq_false_iff_ne.2 (by show ¬ (c.toNat : Int) = 45; omega)) (beq_iff_eq.2 (by show (c.toNat : Int) = 48; omega)) w
   ·exact rparse_pbad ⟨⟨c :: r⟩⟩ hm (by show 0 < (c :: r).length; simp) (beq_eq_false_iff_ne.2 (by show ¬ (c.toNat : Int) = 45; omega)) (beq_eq_false_iff_ne.2 (by show ¬ (c.toNat : Int) = 48; omega)) (fun hall => h (.inr ⟨c, r, .inl rfl, c48, hall⟩)) w
theorem ref_parse_yes (l : List UInt8) (hm : l.length ≤ 1000) (h : Form l) (w : World) :
 Calls Tryz.prog 82 #[.string ⟨⟨l⟩⟩] w (ReadAs (textVal l) w) := by
 rcases h with rfl | ⟨c, r, rfl | rfl, hc, hall⟩
 ·have h := rparse_zok ⟨⟨[48]⟩⟩ rfl (by decide) (by decide) (by intro c hc; have hc2 : c ∈ [(48 : UInt8)] := hc; rw [List.mem_singleton.1 hc2]; unfold dig; decide) w
  have e : nv false (dgs [48] 0) = textVal [48] := by unfold nv; rw [vl_dgs]; rfl
  rw [← e]; exact h
 ·have hd := hall c (by simp)
  unfold dig at hd
  have h := rparse_pok ⟨⟨c :: r⟩⟩ hm (by show 0 < (c :: r).length; simp) (beq_eq_false_iff_ne.2 (by show ¬ (c.toNat : Int) = 45; omega)) (beq_eq_false_iff_ne.2 (by show ¬ (c.toNat : Int) = 48; omega)) hall w
  have e : nv false (dgs (c :: r) 0) = textVal (c :: r) := by unfold nv; rw [vl_dgs, textVal_plain c r (by omega)]; rfl
  rw [← e]; exact h
 ·have h := rparse_mok ⟨⟨45 :: c :: r⟩⟩ hm (by show 1 < (45 :: c :: r).length; simp) (beq_iff_eq.2 (by show ((45 : UInt8).toNat : Int) = 45; rfl)) (beq_eq_false_iff_ne.2 (by show ¬ (c.toNat : Int) = 48; omega)) hall w
  have e : nv true (dgs (45 :: c :: r) 1) = textVal (45 :: c :: r) := by unfold nv; rw [vl_dgs, textVal_minus]; rfl
  rw [← e]; exact h
/-- digits, written out again -/
theorem dec_again (c : UInt8) (r : List UInt8) (hc : ¬ c.toNat = 48) (hall : ∀ x ∈ c :: r, dig x) : 0 < valM 0 (c :: r) ∧ Lib.decDigits (valM 0 (c :: r)) = c :: r := by
 have hcan : Can (dgs (c :: r) 0) := ⟨dgs_nine _ 0 hall, fun a ha => by
  rw [dgs_step _ 0 (by simp)] at ha
  have := (List.append_inj' ha rfl).2
  have hd := hall c (by simp)
  unfold dig at hd
  simp at this; omega⟩
 have hv : dg (valM 0 (c :: r)) = dgs (c :: r) 0 := by have := hcan.eq; rw [vl_dgs] at this; exact this
 have hpos : 0 < valM 0 (c :: r) := by
  apply Nat.pos_of_ne_zero
  intro h0
  rw [h0, dg_zero] at hv
  have := congrArg List.length hv
  rw [dgs_len] at this; simp at this
 refine ⟨hpos, ?_⟩
 rw [decDigits_dg _ hpos, hv]
 unfold dgs
 rw [List.drop_zero, ← List.map_reverse, List.reverse_reverse, List.map_map]
 have : ∀ x ∈ c :: r, ((fun d => UInt8.ofNat (48 + d)) ∘ fun c : UInt8 => c.toNat - 48) x = id x := by
  intro x hx
  have hd := hall x hx
  unfold dig at hd
  show UInt8.ofNat (48 + (x.toNat - 48)) = x
  rw [show 48 + (x.toNat - 48) = x.toNat from by omega]
  exact UInt8.ofNat_toNat
 rw [List.map_congr_left this, List.map_id]
theorem itoa_again (l : List UInt8) (h : Form l) : Lib.itoa (textVal l) = l := by
 rcases h with rfl | ⟨c, r, rfl | rfl, hc, hall⟩
 ·show Lib.itoa 0 = [48]
  unfold Lib.itoa; rw [if_neg (by decide), Lib.decDigits]; rfl
 ·obtain ⟨hp, hd⟩ := dec_again c r hc hall
  have h1 := hall c (by simp)
  unfold dig at h1
  rw [textVal_plain c r (by omega)]
  unfold Lib.itoa
  rw [if_neg (by omega), Int.toNat_natCast, hd]
 ·obtain ⟨hp, hd⟩ := dec_again c r hc hall
  rw [textVal_minus]
  unfold Lib.itoa
  rw [if_pos (by omega), Int.natAbs_neg, Int.natAbs_natCast, hd]
end Go.Proofs.YteddfolhpoikcaaGreatDoor.R1
