/-
  DERIVED. CONTRACT of the reference's Parse.
-/
import Derived.Test.YtbnlomjlapnoaaaDoorR1RefText
import Derived.Test.YtbnlomjlapnoaaaDoorDec
import Derived.WalkSpells
import Derived.Deep.RegionLaw
import Derived.Deep.RegionHeld
import Derived.Deep.Cut
namespace Go.Proofs.YtbnlomjlapnoaaaDoor.R1
open Go.RowKit

def dgs (l : List UInt8) (k : Nat) : List Nat := (l.drop k).reverse.map fun c => c.toNat - 48
theorem dgs_step (l : List UInt8) (k : Nat) (h : k < l.length) : dgs l k = dgs l (k + 1) ++ [l[k].toNat - 48] := by
  unfold dgs
  rw [List.drop_eq_getElem_cons h, List.reverse_cons, List.map_append]; rfl
theorem dgs_end (l : List UInt8) : dgs l l.length = [] := by unfold dgs; rw [List.drop_length]; rfl
theorem dgs_len (l : List UInt8) (k : Nat) : (dgs l k).length = l.length - k := by unfold dgs; simp
theorem valM_append' (a b : List UInt8) : ∀ acc, valM acc (a ++ b) = valM (valM acc a) b := by
  induction a with
  | nil => intro acc; rfl
  | cons x t ih => intro acc; exact ih _
theorem vl_rev (m : List UInt8) : vl (m.map fun c => c.toNat - 48) = valM 0 m.reverse := by
  induction m with
  | nil => rfl
  | cons c r ih =>
    rw [List.reverse_cons, valM_append', ← ih]
    show (c.toNat - 48) + 10 * vl (r.map fun c => c.toNat - 48) = vl (r.map fun c => c.toNat - 48) * 10 + (c.toNat - 48)
    generalize vl (r.map fun c => c.toNat - 48) = x
    generalize c.toNat - 48 = d
    omega
theorem vl_dgs (l : List UInt8) (k : Nat) : vl (dgs l k) = valM 0 (l.drop k) := by
  unfold dgs; rw [vl_rev, List.reverse_reverse]
theorem dgs_nine (l : List UInt8) (k : Nat) (h : ∀ c ∈ l.drop k, dig c) : ∀ d ∈ dgs l k, d ≤ 9 := by
  intro d hd
  unfold dgs at hd
  simp only [List.mem_map, List.mem_reverse] at hd
  obtain ⟨c, hc, rfl⟩ := hd
  have := h c hc
  unfold dig at this; omega
theorem mem_drop_at (l : List UInt8) (k m : Nat) (h : k ≤ m) (hm : m < l.length) : l[m] ∈ l.drop k :=
  List.mem_iff_getElem.2 ⟨m - k, by rw [List.length_drop]; omega, by simp only [List.getElem_drop, show k + (m - k) = m by omega]⟩
theorem all_step (l : List UInt8) (m : Nat) (hm : m < l.length) (h : ∀ c ∈ l.drop (m + 1), dig c) (hd : dig l[m]) : ∀ c ∈ l.drop m, dig c := by
  rw [List.drop_eq_getElem_cons hm]
  intro c hc
  rcases List.mem_cons.1 hc with e | e
  · rw [e]; exact hd
  · exact h c e
/-- append onto a row of the call's own, as one step of a region that draws its order -/
theorem step_append_own {P : Program} {ops : Array Oper} {o : Oper} {a : Act} {w : World} {K : Act → World → Prop} {Q : Exit → Act → World → Prop} {E : Prop} (hgd : o.guard = none) (s x : Operand) (t : TypeId)
    (ho : o.op = .call { callee := .builtin .append, args := #[s, x], argTypes := #[t, t] })
    (base : Nat) (e : TypeId) (i : TypeInfo) (z : Value) (size bytes : Nat) (ht : P.underlying t = some (.slice e)) (hi : P.info? e = some i) (hz : i.zero = some z)
    (hsize : i.size = size) (hby : i.bytes = bytes) (hzs : z.cells.size = size) (hsz : 0 < size)
    (v : Value) (n : Nat) (xs : List Value) (hs : a.eval s = v) (hown : w.ownsRow base e size v n xs)
    (ad : Addr) (m c : Nat) (news : List Value) (hx : a.eval x = .slice (some ad) m c) (hl : news.length = m * size) (hnews : ∀ j u, news[j]? = some u → w.cell? (ad.add j) = some u) (h1 : ∀ u ∈ news, u.oneCell' = true)
    (h63 : n + m ≤ maxLen) (hbytes : (n + m) * bytes ≤ 140737488355328) (hbase : base ≤ w.heap.size)
    (h : ∀ v' w', w'.ownsRow base e size v' (n + m) (xs ++ news) → w.grownBy w' v.ownBlock → (v' = .slice none 0 0 ↔ v = .slice none 0 0 ∧ m = 0) → K (a.put o.dst v') w') :
    if Region.wanted o (yielded ops a.tmps) = true then Oper.wp P o a w K Q else E := by
  have hw : Region.wanted o (yielded ops a.tmps) = true := by simp [Region.wanted, hgd]
  rw [if_pos hw]
  exact wp_append_own w s x t ho base e i z size bytes ht hi hz hsize hby hzs hsz v n xs hs hown ad m c news hx hl hnews h1 h63 hbytes hbase h
/-- refused: nothing, and false -/
def Refused (w : World) (e : Ending) (w' : World) : Prop := e = .returned (.tuple #[.agg #[.bool false, .slice none 0 0], .bool false]) ∧ Below w.heap.size w w'
/-- read: a number, and true -/
def ReadAs (x : Int) (w : World) (e : Ending) (w' : World) : Prop :=
  (∃ a cap, e = .returned (.tuple #[.agg #[.bool (decide (x < 0)), .slice a (dg x.natAbs).length cap], .bool true]) ∧ Digs w' (.slice a (dg x.natAbs).length cap) (dg x.natAbs)) ∧ Below w.heap.size w w'


set_option maxRecDepth 100000 in
set_option maxHeartbeats 1000000 in
theorem rparse_empty  (w : World) :
    Calls Tryd.prog 32 #[.string ⟨#[]⟩] w (Refused w) := by
  go_enter Tryd.func32, Tryd.ntmps32
  go_wp2_with fail
  exact bodyPost_ret (v := .tuple #[.agg #[.bool false, .slice none 0 0], .bool false]) (by simp [results, Tryd.results32, go_sem]) rfl ⟨rfl, below2 _ _ _⟩

set_option maxRecDepth 100000 in
set_option maxHeartbeats 1000000 in
theorem rparse_minus  (w : World) :
    Calls Tryd.prog 32 #[.string ⟨#[45]⟩] w (Refused w) := by
  go_enter Tryd.func32, Tryd.ntmps32
  go_wp2_with fail
  exact bodyPost_ret (v := .tuple #[.agg #[.bool false, .slice none 0 0], .bool false]) (by simp [results, Tryd.results32, go_sem]) rfl ⟨rfl, below2 _ _ _⟩

set_option maxRecDepth 100000 in
set_option maxHeartbeats 1000000 in
theorem rparse_lead (s : ByteArray) (hn : 1 < s.size) (hm : s.size ≤ 1000) (h0 : ((s[0].toNat : Int) == 45) = false) (h1 : ((s[0].toNat : Int) == 48) = true) (w : World) :
    Calls Tryd.prog 32 #[.string s] w (Refused w) := by
  have h2 : ((s.size : Int) == 0) = false := beq_eq_false_iff_ne.2 (by omega)
  go_enter Tryd.func32, Tryd.ntmps32
  go_wp2_with fail
  exact bodyPost_ret (v := .tuple #[.agg #[.bool false, .slice none 0 0], .bool false]) (by simp [results, Tryd.results32, go_sem]) rfl ⟨rfl, below2 _ _ _⟩

set_option maxRecDepth 100000 in
set_option maxHeartbeats 1000000 in
theorem rparse_mlead (s : ByteArray) (hn : 1 < s.size) (hm : s.size ≤ 1000) (h0 : ((s[0].toNat : Int) == 45) = true) (h1 : ((s[1].toNat : Int) == 48) = true) (w : World) :
    Calls Tryd.prog 32 #[.string s] w (Refused w) := by
  have h2 : ((s.size : Int) == 1) = false := beq_eq_false_iff_ne.2 (by omega)
  go_enter Tryd.func32, Tryd.ntmps32
  go_wp2_with fail
  exact bodyPost_ret (v := .tuple #[.agg #[.bool false, .slice none 0 0], .bool false]) (by simp [results, Tryd.results32, go_sem]) rfl ⟨rfl, below2 _ _ _⟩

set_option maxRecDepth 100000 in
set_option maxHeartbeats 2000000 in
theorem rparse_mok (s : ByteArray) (hm : s.size ≤ 1000) (hn : 1 < s.size) (h0 : ((s[0].toNat : Int) == 45) = true) (h1 : ((s[1].toNat : Int) == 48) = false) (hd : ∀ c ∈ s.data.toList.drop 1, dig c) (w : World) :
    Calls Tryd.prog 32 #[.string s] w (ReadAs (nv true (dgs s.data.toList 1)) w) := by
  obtain ⟨i0, hi, hz0, hz1, hz2⟩ := info_parts info5
  have HDIG := Lib.hid hd; clear hd
  have hlen : s.data.toList.length = s.size := Array.length_toList
  have HLEN := Lib.hid hlen; clear hlen
  have h2 : ((s.size : Int) == 1) = false := beq_eq_false_iff_ne.2 (by omega)
  go_enter Tryd.func32, Tryd.ntmps32
  go_wp2_with fail
  go_loopw [6] (fun i wr => ∃ (z : Int) (v : Value), 1 - 1 ≤ z ∧ z < s.size ∧ i = .int .i64 z ∧ Hid (∀ c ∈ s.data.toList.drop (z + 1).toNat, dig c) ∧ SumRel (w.heap.size + 1) true (w.alloc (.cells #[.bool false, .slice none 0 0] NT)) (dgs s.data.toList (z + 1).toNat) v wr) (fun i _ => (intOf i + 1).toNat)
  case atStart => exact ⟨(s.size : Int) - 1, .slice none 0 0, by omega, by omega, (by first | rfl | (rw [hn]; rfl)), Lib.hid (by
      rw [show ((s.size : Int) - 1 + 1).toNat = s.data.toList.length from by rw [HLEN.out]; omega, List.drop_length]; simp), by
      rw [show ((s.size : Int) - 1 + 1).toNat = s.data.toList.length from by rw [HLEN.out]; omega, dgs_end]
      exact ⟨(Below.refl _ _).alloc (by simp) _, by simp, by simp [go_sem], by simp [go_sem], by simp [go_sem], by simp [go_sem], World.ownsRow_nil _ _ _ _⟩⟩
  case round =>
    obtain ⟨z, v, hz1', hz2', rfl, hall, R⟩ := hrel
    have hbl := R.below
    have hc0 := R.c0
    have hc1 := R.c1
    have hf1 := R.f1
    have r0 : wr.cell? ⟨w.heap.size, 0, none⟩ = some (.bool false) := by rw [hbl.cell (p := ⟨w.heap.size, 0, none⟩) (by simp)]; simp [go_sem]
    have r1 : wr.cell? ⟨w.heap.size, 1, none⟩ = some (.slice none 0 0) := by rw [hbl.cell (p := ⟨w.heap.size, 1, none⟩) (by simp)]; simp [go_sem]
    have g0 : wr.frozen? ⟨w.heap.size, 0, none⟩ = false := by rw [hbl.frozen (p := ⟨w.heap.size, 0, none⟩) (by simp)]; simp [go_sem]
    have g1 : wr.frozen? ⟨w.heap.size, 1, none⟩ = false := by rw [hbl.frozen (p := ⟨w.heap.size, 1, none⟩) (by simp)]; simp [go_sem]
    have hB : Below w.heap.size w wr := (below1 w _).trans (hbl.mono (by omega))
    have hsz := R.size
    have RR := Lib.hid R; clear R hbl
    by_cases hz : 1 ≤ z
    · obtain ⟨m, rfl⟩ := Int.eq_ofNat_of_zero_le (show 0 ≤ z by omega)
      have hms : m < s.size := by omega
      have hms2 : m < s.data.toList.length := by rw [HLEN.out]; exact hms
      have hget : s.data.toList[m] = s[m] := rfl
      have HGET := Lib.hid hget; clear hget
      rw [show ((m : Int) + 1).toNat = m + 1 from by omega] at hall RR
      by_cases hdg : 48 ≤ s[m].toNat ∧ s[m].toNat ≤ 57
      · obtain ⟨d1, d2⟩ := hdg
        have d1' : ¬ (s[m].toNat : Int) < 48 := by omega
        have d2' : ¬ 57 < (s[m].toNat : Int) := by omega
        have e1 : (s[m].toNat : Int) - 48 = ((s[m].toNat - 48 : Nat) : Int) := by omega
        have E1 := Lib.hid e1; clear e1
        have hl2 : (dgs s.data.toList (m + 1)).length ≤ 1000 := by rw [dgs_len, HLEN.out]; omega
        have RO : wr.drew.ownsRow (w.heap.size + 1 + 1) 5 1 v (dgs s.data.toList (m + 1)).length (vs (dgs s.data.toList (m + 1))) := RR.out.own
        have RO := Lib.hid RO
        have enew := World.new_ne wr _ hc1
        have wu : IntKind.u8.wrap ((s[m].toNat : Int) - 48) = (s[m].toNat : Int) - 48 := IntWalk.u8_in _ (by omega)
        go_upto_region 13 with fail
        go_region_law (
          refine step_append_own rfl (.tmp 52) (.tmp 57) 55 rfl (w.heap.size + 1 + 1) 5 i0 (.int .u8 0) 1 1 Tryd.underlying55 hi hz0 hz1 hz2 rfl (by decide) v (dgs s.data.toList (m + 1)).length (vs (dgs s.data.toList (m + 1))) rfl (RO.out.alloc _) ⟨wr.heap.size, 0, none⟩ 1 1 [.int .u8 ((s[m].toNat : Int) - 48)] rfl rfl (fun j u h => one_new wr _ _ j u h) (by intro u hu; simp at hu; subst hu; rfl) (by unfold maxLen; omega) (by omega) (size_newN _ 1 _ _ RR.out.size) ?_
          intro v' w' hown' hgrow _
          obtain ⟨a', cap', rfl⟩ := own_shape hown'
          rw [E1.out] at hown'
          obtain ⟨hR, k1, kf1⟩ := RR.out.round (((Below.refl _ _).alloc (by simp) _).drew) hgrow _ hown'
          have HR := Lib.hid hR; clear hR
          clear hown' hgrow)
        all_goals
          go_wp2_with fail
          go_roundw
          case rel => exact ⟨(m : Int) - 1, _, by omega, by omega, by simp, Lib.hid (by
              rw [show ((m : Int) - 1 + 1).toNat = m from by omega]
              exact all_step _ m hms2 hall.out (by rw [HGET.out]; unfold dig; exact ⟨d1, d2⟩)), by
              rw [show ((m : Int) - 1 + 1).toNat = m from by omega, dgs_step _ m hms2, HGET.out]
              exact HR.out⟩
          case measure => simp [intOf]
      · exact absurd (HDIG.out _ (mem_drop_at _ 1 m (by omega) hms2)) (by rw [HGET.out]; exact hdg)
    · obtain ⟨a, cap, rfl, hD, hf⟩ := own_digs RR.out.own (by rw [dgs_len, HLEN.out]; omega)
      rw [show (z + 1).toNat = 1 from by omega] at hD hall
      have h9 := dgs_nine _ _ hall.out
      have ct := fun (w1 : World) (h : Digs w1 (.slice a (dgs s.data.toList 1).length cap) (dgs s.data.toList 1)) => ref_trim true _ (dgs s.data.toList 1) w1 h h9
      have CT := Lib.hid ct; clear ct
      have HD := Lib.hid hD; clear hD
      have HF := Lib.hid hf; clear hf
      have HB := Lib.hid hB; clear hB
      rw [show (z + 1).toNat = 1 from by omega] at hc1
      go_wp2_with fail
      refine (CT.out _ HD.out).mono ?_
      rintro e w1 ⟨⟨a1, cap1, rfl, hd1, hf1⟩, hb1⟩
      have D1 := Lib.hid hd1; clear hd1
      have c0 : w1.cell? ⟨w.heap.size, 0, none⟩ = some (.bool false) := by rw [hb1.cell (p := ⟨w.heap.size, 0, none⟩) (show w.heap.size < wr.heap.size by omega)]; exact r0
      have c1 : w1.cell? ⟨w.heap.size, 1, none⟩ = some (.slice none 0 0) := by rw [hb1.cell (p := ⟨w.heap.size, 1, none⟩) (show w.heap.size < wr.heap.size by omega)]; exact r1
      have f0 : w1.frozen? ⟨w.heap.size, 0, none⟩ = false := by rw [hb1.frozen (p := ⟨w.heap.size, 0, none⟩) (show w.heap.size < wr.heap.size by omega)]; exact g0
      have f1 : w1.frozen? ⟨w.heap.size, 1, none⟩ = false := by rw [hb1.frozen (p := ⟨w.heap.size, 1, none⟩) (show w.heap.size < wr.heap.size by omega)]; exact g1
      have hb0 := HB.out.trans (hb1.mono (by omega))
      clear hb1 r0 r1 g0 g1
      have HF1 := Lib.hid hf1; clear hf1
      go_wp2_with fail
      refine bodyPost_ret (v := .tuple #[.agg #[.bool (decide (nv true (dgs s.data.toList 1) < 0)), .slice a1 (dg (nv true (dgs s.data.toList 1)).natAbs).length cap1], .bool true]) (by simp [results, Tryd.results32, go_sem, c0, c1]) rfl ?_
      have hne : ∀ p, a1 = some p → ¬ p.block = w.heap.size := fun p hp => by
        rcases HF1.out p hp with h | h
        · omega
        · cases a with
          | none => simp [sb] at h
          | some q => simp [sb] at h; have := HF.out q rfl; omega
      exact ⟨⟨a1, cap1, rfl, (D1.out.setCell hne).setCell hne⟩, (hb0.setCell (p := ⟨w.heap.size, 0, none⟩) (Nat.le_refl _) _).setCell (p := ⟨w.heap.size, 1, none⟩) (Nat.le_refl _) _⟩


set_option maxRecDepth 100000 in
set_option maxHeartbeats 2000000 in
theorem rparse_mbad (s : ByteArray) (hm : s.size ≤ 1000) (hn : 1 < s.size) (h0 : ((s[0].toNat : Int) == 45) = true) (h1 : ((s[1].toNat : Int) == 48) = false) (hd : ¬ ∀ c ∈ s.data.toList.drop 1, dig c) (w : World) :
    Calls Tryd.prog 32 #[.string s] w (Refused w) := by
  obtain ⟨i0, hi, hz0, hz1, hz2⟩ := info_parts info5
  have HDIG := Lib.hid hd; clear hd
  have hlen : s.data.toList.length = s.size := Array.length_toList
  have HLEN := Lib.hid hlen; clear hlen
  have h2 : ((s.size : Int) == 1) = false := beq_eq_false_iff_ne.2 (by omega)
  go_enter Tryd.func32, Tryd.ntmps32
  go_wp2_with fail
  go_loopw [6] (fun i wr => ∃ (z : Int) (v : Value), 1 - 1 ≤ z ∧ z < s.size ∧ i = .int .i64 z ∧ Hid (∀ c ∈ s.data.toList.drop (z + 1).toNat, dig c) ∧ SumRel (w.heap.size + 1) true (w.alloc (.cells #[.bool false, .slice none 0 0] NT)) (dgs s.data.toList (z + 1).toNat) v wr) (fun i _ => (intOf i + 1).toNat)
  case atStart => exact ⟨(s.size : Int) - 1, .slice none 0 0, by omega, by omega, (by first | rfl | (rw [hn]; rfl)), Lib.hid (by
      rw [show ((s.size : Int) - 1 + 1).toNat = s.data.toList.length from by rw [HLEN.out]; omega, List.drop_length]; simp), by
      rw [show ((s.size : Int) - 1 + 1).toNat = s.data.toList.length from by rw [HLEN.out]; omega, dgs_end]
      exact ⟨(Below.refl _ _).alloc (by simp) _, by simp, by simp [go_sem], by simp [go_sem], by simp [go_sem], by simp [go_sem], World.ownsRow_nil _ _ _ _⟩⟩
  case round =>
    obtain ⟨z, v, hz1', hz2', rfl, hall, R⟩ := hrel
    have hbl := R.below
    have hc0 := R.c0
    have hc1 := R.c1
    have hf1 := R.f1
    have r0 : wr.cell? ⟨w.heap.size, 0, none⟩ = some (.bool false) := by rw [hbl.cell (p := ⟨w.heap.size, 0, none⟩) (by simp)]; simp [go_sem]
    have r1 : wr.cell? ⟨w.heap.size, 1, none⟩ = some (.slice none 0 0) := by rw [hbl.cell (p := ⟨w.heap.size, 1, none⟩) (by simp)]; simp [go_sem]
    have g0 : wr.frozen? ⟨w.heap.size, 0, none⟩ = false := by rw [hbl.frozen (p := ⟨w.heap.size, 0, none⟩) (by simp)]; simp [go_sem]
    have g1 : wr.frozen? ⟨w.heap.size, 1, none⟩ = false := by rw [hbl.frozen (p := ⟨w.heap.size, 1, none⟩) (by simp)]; simp [go_sem]
    have hB : Below w.heap.size w wr := (below1 w _).trans (hbl.mono (by omega))
    have hsz := R.size
    have RR := Lib.hid R; clear R hbl
    by_cases hz : 1 ≤ z
    · obtain ⟨m, rfl⟩ := Int.eq_ofNat_of_zero_le (show 0 ≤ z by omega)
      have hms : m < s.size := by omega
      have hms2 : m < s.data.toList.length := by rw [HLEN.out]; exact hms
      have hget : s.data.toList[m] = s[m] := rfl
      have HGET := Lib.hid hget; clear hget
      rw [show ((m : Int) + 1).toNat = m + 1 from by omega] at hall RR
      by_cases hdg : 48 ≤ s[m].toNat ∧ s[m].toNat ≤ 57
      · obtain ⟨d1, d2⟩ := hdg
        have d1' : ¬ (s[m].toNat : Int) < 48 := by omega
        have d2' : ¬ 57 < (s[m].toNat : Int) := by omega
        have e1 : (s[m].toNat : Int) - 48 = ((s[m].toNat - 48 : Nat) : Int) := by omega
        have E1 := Lib.hid e1; clear e1
        have hl2 : (dgs s.data.toList (m + 1)).length ≤ 1000 := by rw [dgs_len, HLEN.out]; omega
        have RO : wr.drew.ownsRow (w.heap.size + 1 + 1) 5 1 v (dgs s.data.toList (m + 1)).length (vs (dgs s.data.toList (m + 1))) := RR.out.own
        have RO := Lib.hid RO
        have enew := World.new_ne wr _ hc1
        have wu : IntKind.u8.wrap ((s[m].toNat : Int) - 48) = (s[m].toNat : Int) - 48 := IntWalk.u8_in _ (by omega)
        go_upto_region 13 with fail
        go_region_law (
          refine step_append_own rfl (.tmp 52) (.tmp 57) 55 rfl (w.heap.size + 1 + 1) 5 i0 (.int .u8 0) 1 1 Tryd.underlying55 hi hz0 hz1 hz2 rfl (by decide) v (dgs s.data.toList (m + 1)).length (vs (dgs s.data.toList (m + 1))) rfl (RO.out.alloc _) ⟨wr.heap.size, 0, none⟩ 1 1 [.int .u8 ((s[m].toNat : Int) - 48)] rfl rfl (fun j u h => one_new wr _ _ j u h) (by intro u hu; simp at hu; subst hu; rfl) (by unfold maxLen; omega) (by omega) (size_newN _ 1 _ _ RR.out.size) ?_
          intro v' w' hown' hgrow _
          obtain ⟨a', cap', rfl⟩ := own_shape hown'
          rw [E1.out] at hown'
          obtain ⟨hR, k1, kf1⟩ := RR.out.round (((Below.refl _ _).alloc (by simp) _).drew) hgrow _ hown'
          have HR := Lib.hid hR; clear hR
          clear hown' hgrow)
        all_goals
          go_wp2_with fail
          go_roundw
          case rel => exact ⟨(m : Int) - 1, _, by omega, by omega, by simp, Lib.hid (by
              rw [show ((m : Int) - 1 + 1).toNat = m from by omega]
              exact all_step _ m hms2 hall.out (by rw [HGET.out]; unfold dig; exact ⟨d1, d2⟩)), by
              rw [show ((m : Int) - 1 + 1).toNat = m from by omega, dgs_step _ m hms2, HGET.out]
              exact HR.out⟩
          case measure => simp [intOf]
      · have hB2 := (hB.setCell (p := ⟨w.heap.size, 0, none⟩) (Nat.le_refl _) (.bool false)).setCell (p := ⟨w.heap.size, 1, none⟩) (Nat.le_refl _) (.slice none 0 0)
        have HB := Lib.hid hB2; clear hB hB2
        have hx : s[m].toNat < 48 ∨ (¬ s[m].toNat < 48 ∧ 57 < s[m].toNat) := by omega
        clear hdg
        rcases hx with x1 | ⟨x1, x2⟩
        · have x1' : (s[m].toNat : Int) < 48 := by omega
          clear x1
          go_wp2_with fail
          exact bodyPost_ret (v := .tuple #[.agg #[.bool false, .slice none 0 0], .bool false]) (by simp [results, Tryd.results32, go_sem, r0, r1]) rfl ⟨rfl, HB.out⟩
        · have x1' : ¬ (s[m].toNat : Int) < 48 := by omega
          have x2' : 57 < (s[m].toNat : Int) := by omega
          clear x1 x2
          go_wp2_with fail
          exact bodyPost_ret (v := .tuple #[.agg #[.bool false, .slice none 0 0], .bool false]) (by simp [results, Tryd.results32, go_sem, r0, r1]) rfl ⟨rfl, HB.out⟩

    · exact absurd (by have h := hall.out; rw [show (z + 1).toNat = 1 from by omega] at h; exact h) HDIG.out

set_option maxRecDepth 100000 in
set_option maxHeartbeats 2000000 in
theorem rparse_pok (s : ByteArray) (hm : s.size ≤ 1000) (hn : 0 < s.size) (h0 : ((s[0].toNat : Int) == 45) = false) (h1 : ((s[0].toNat : Int) == 48) = false) (hd : ∀ c ∈ s.data.toList.drop 0, dig c) (w : World) :
    Calls Tryd.prog 32 #[.string s] w (ReadAs (nv false (dgs s.data.toList 0)) w) := by
  obtain ⟨i0, hi, hz0, hz1, hz2⟩ := info_parts info5
  have HDIG := Lib.hid hd; clear hd
  have hlen : s.data.toList.length = s.size := Array.length_toList
  have HLEN := Lib.hid hlen; clear hlen
  have h2 : ((s.size : Int) == 0) = false := beq_eq_false_iff_ne.2 (by omega)
  go_enter Tryd.func32, Tryd.ntmps32
  go_wp2_with fail
  go_loopw [6] (fun i wr => ∃ (z : Int) (v : Value), 0 - 1 ≤ z ∧ z < s.size ∧ i = .int .i64 z ∧ Hid (∀ c ∈ s.data.toList.drop (z + 1).toNat, dig c) ∧ SumRel (w.heap.size + 1) false (w.alloc (.cells #[.bool false, .slice none 0 0] NT)) (dgs s.data.toList (z + 1).toNat) v wr) (fun i _ => (intOf i + 1).toNat)
  case atStart => exact ⟨(s.size : Int) - 1, .slice none 0 0, by omega, by omega, (by first | rfl | (rw [hn]; rfl)), Lib.hid (by
      rw [show ((s.size : Int) - 1 + 1).toNat = s.data.toList.length from by rw [HLEN.out]; omega, List.drop_length]; simp), by
      rw [show ((s.size : Int) - 1 + 1).toNat = s.data.toList.length from by rw [HLEN.out]; omega, dgs_end]
      exact ⟨(Below.refl _ _).alloc (by simp) _, by simp, by simp [go_sem], by simp [go_sem], by simp [go_sem], by simp [go_sem], World.ownsRow_nil _ _ _ _⟩⟩
  case round =>
    obtain ⟨z, v, hz1', hz2', rfl, hall, R⟩ := hrel
    have hbl := R.below
    have hc0 := R.c0
    have hc1 := R.c1
    have hf1 := R.f1
    have r0 : wr.cell? ⟨w.heap.size, 0, none⟩ = some (.bool false) := by rw [hbl.cell (p := ⟨w.heap.size, 0, none⟩) (by simp)]; simp [go_sem]
    have r1 : wr.cell? ⟨w.heap.size, 1, none⟩ = some (.slice none 0 0) := by rw [hbl.cell (p := ⟨w.heap.size, 1, none⟩) (by simp)]; simp [go_sem]
    have g0 : wr.frozen? ⟨w.heap.size, 0, none⟩ = false := by rw [hbl.frozen (p := ⟨w.heap.size, 0, none⟩) (by simp)]; simp [go_sem]
    have g1 : wr.frozen? ⟨w.heap.size, 1, none⟩ = false := by rw [hbl.frozen (p := ⟨w.heap.size, 1, none⟩) (by simp)]; simp [go_sem]
    have hB : Below w.heap.size w wr := (below1 w _).trans (hbl.mono (by omega))
    have hsz := R.size
    have RR := Lib.hid R; clear R hbl
    by_cases hz : 0 ≤ z
    · obtain ⟨m, rfl⟩ := Int.eq_ofNat_of_zero_le (show 0 ≤ z by omega)
      have hms : m < s.size := by omega
      have hms2 : m < s.data.toList.length := by rw [HLEN.out]; exact hms
      have hget : s.data.toList[m] = s[m] := rfl
      have HGET := Lib.hid hget; clear hget
      rw [show ((m : Int) + 1).toNat = m + 1 from by omega] at hall RR
      by_cases hdg : 48 ≤ s[m].toNat ∧ s[m].toNat ≤ 57
      · obtain ⟨d1, d2⟩ := hdg
        have d1' : ¬ (s[m].toNat : Int) < 48 := by omega
        have d2' : ¬ 57 < (s[m].toNat : Int) := by omega
        have e1 : (s[m].toNat : Int) - 48 = ((s[m].toNat - 48 : Nat) : Int) := by omega
        have E1 := Lib.hid e1; clear e1
        have hl2 : (dgs s.data.toList (m + 1)).length ≤ 1000 := by rw [dgs_len, HLEN.out]; omega
        have RO : wr.drew.ownsRow (w.heap.size + 1 + 1) 5 1 v (dgs s.data.toList (m + 1)).length (vs (dgs s.data.toList (m + 1))) := RR.out.own
        have RO := Lib.hid RO
        have enew := World.new_ne wr _ hc1
        have wu : IntKind.u8.wrap ((s[m].toNat : Int) - 48) = (s[m].toNat : Int) - 48 := IntWalk.u8_in _ (by omega)
        go_upto_region 13 with fail
        go_region_law (
          refine step_append_own rfl (.tmp 52) (.tmp 57) 55 rfl (w.heap.size + 1 + 1) 5 i0 (.int .u8 0) 1 1 Tryd.underlying55 hi hz0 hz1 hz2 rfl (by decide) v (dgs s.data.toList (m + 1)).length (vs (dgs s.data.toList (m + 1))) rfl (RO.out.alloc _) ⟨wr.heap.size, 0, none⟩ 1 1 [.int .u8 ((s[m].toNat : Int) - 48)] rfl rfl (fun j u h => one_new wr _ _ j u h) (by intro u hu; simp at hu; subst hu; rfl) (by unfold maxLen; omega) (by omega) (size_newN _ 1 _ _ RR.out.size) ?_
          intro v' w' hown' hgrow _
          obtain ⟨a', cap', rfl⟩ := own_shape hown'
          rw [E1.out] at hown'
          obtain ⟨hR, k1, kf1⟩ := RR.out.round (((Below.refl _ _).alloc (by simp) _).drew) hgrow _ hown'
          have HR := Lib.hid hR; clear hR
          clear hown' hgrow)
        all_goals
          go_wp2_with fail
          go_roundw
          case rel => exact ⟨(m : Int) - 1, _, by omega, by omega, by simp, Lib.hid (by
              rw [show ((m : Int) - 1 + 1).toNat = m from by omega]
              exact all_step _ m hms2 hall.out (by rw [HGET.out]; unfold dig; exact ⟨d1, d2⟩)), by
              rw [show ((m : Int) - 1 + 1).toNat = m from by omega, dgs_step _ m hms2, HGET.out]
              exact HR.out⟩
          case measure => simp [intOf]
      · exact absurd (HDIG.out _ (mem_drop_at _ 0 m (by omega) hms2)) (by rw [HGET.out]; exact hdg)
    · obtain ⟨a, cap, rfl, hD, hf⟩ := own_digs RR.out.own (by rw [dgs_len, HLEN.out]; omega)
      rw [show (z + 1).toNat = 0 from by omega] at hD hall
      have h9 := dgs_nine _ _ hall.out
      have ct := fun (w1 : World) (h : Digs w1 (.slice a (dgs s.data.toList 0).length cap) (dgs s.data.toList 0)) => ref_trim false _ (dgs s.data.toList 0) w1 h h9
      have CT := Lib.hid ct; clear ct
      have HD := Lib.hid hD; clear hD
      have HF := Lib.hid hf; clear hf
      have HB := Lib.hid hB; clear hB
      rw [show (z + 1).toNat = 0 from by omega] at hc1
      go_wp2_with fail
      refine (CT.out _ HD.out).mono ?_
      rintro e w1 ⟨⟨a1, cap1, rfl, hd1, hf1⟩, hb1⟩
      have D1 := Lib.hid hd1; clear hd1
      have c0 : w1.cell? ⟨w.heap.size, 0, none⟩ = some (.bool false) := by rw [hb1.cell (p := ⟨w.heap.size, 0, none⟩) (show w.heap.size < wr.heap.size by omega)]; exact r0
      have c1 : w1.cell? ⟨w.heap.size, 1, none⟩ = some (.slice none 0 0) := by rw [hb1.cell (p := ⟨w.heap.size, 1, none⟩) (show w.heap.size < wr.heap.size by omega)]; exact r1
      have f0 : w1.frozen? ⟨w.heap.size, 0, none⟩ = false := by rw [hb1.frozen (p := ⟨w.heap.size, 0, none⟩) (show w.heap.size < wr.heap.size by omega)]; exact g0
      have f1 : w1.frozen? ⟨w.heap.size, 1, none⟩ = false := by rw [hb1.frozen (p := ⟨w.heap.size, 1, none⟩) (show w.heap.size < wr.heap.size by omega)]; exact g1
      have hb0 := HB.out.trans (hb1.mono (by omega))
      clear hb1 r0 r1 g0 g1
      have HF1 := Lib.hid hf1; clear hf1
      go_wp2_with fail
      refine bodyPost_ret (v := .tuple #[.agg #[.bool (decide (nv false (dgs s.data.toList 0) < 0)), .slice a1 (dg (nv false (dgs s.data.toList 0)).natAbs).length cap1], .bool true]) (by simp [results, Tryd.results32, go_sem, c0, c1]) rfl ?_
      have hne : ∀ p, a1 = some p → ¬ p.block = w.heap.size := fun p hp => by
        rcases HF1.out p hp with h | h
        · omega
        · cases a with
          | none => simp [sb] at h
          | some q => simp [sb] at h; have := HF.out q rfl; omega
      exact ⟨⟨a1, cap1, rfl, (D1.out.setCell hne).setCell hne⟩, (hb0.setCell (p := ⟨w.heap.size, 0, none⟩) (Nat.le_refl _) _).setCell (p := ⟨w.heap.size, 1, none⟩) (Nat.le_refl _) _⟩


set_option maxRecDepth 100000 in
set_option maxHeartbeats 2000000 in
theorem rparse_pbad (s : ByteArray) (hm : s.size ≤ 1000) (hn : 0 < s.size) (h0 : ((s[0].toNat : Int) == 45) = false) (h1 : ((s[0].toNat : Int) == 48) = false) (hd : ¬ ∀ c ∈ s.data.toList.drop 0, dig c) (w : World) :
    Calls Tryd.prog 32 #[.string s] w (Refused w) := by
  obtain ⟨i0, hi, hz0, hz1, hz2⟩ := info_parts info5
  have HDIG := Lib.hid hd; clear hd
  have hlen : s.data.toList.length = s.size := Array.length_toList
  have HLEN := Lib.hid hlen; clear hlen
  have h2 : ((s.size : Int) == 0) = false := beq_eq_false_iff_ne.2 (by omega)
  go_enter Tryd.func32, Tryd.ntmps32
  go_wp2_with fail
  go_loopw [6] (fun i wr => ∃ (z : Int) (v : Value), 0 - 1 ≤ z ∧ z < s.size ∧ i = .int .i64 z ∧ Hid (∀ c ∈ s.data.toList.drop (z + 1).toNat, dig c) ∧ SumRel (w.heap.size + 1) false (w.alloc (.cells #[.bool false, .slice none 0 0] NT)) (dgs s.data.toList (z + 1).toNat) v wr) (fun i _ => (intOf i + 1).toNat)
  case atStart => exact ⟨(s.size : Int) - 1, .slice none 0 0, by omega, by omega, (by first | rfl | (rw [hn]; rfl)), Lib.hid (by
      rw [show ((s.size : Int) - 1 + 1).toNat = s.data.toList.length from by rw [HLEN.out]; omega, List.drop_length]; simp), by
      rw [show ((s.size : Int) - 1 + 1).toNat = s.data.toList.length from by rw [HLEN.out]; omega, dgs_end]
      exact ⟨(Below.refl _ _).alloc (by simp) _, by simp, by simp [go_sem], by simp [go_sem], by simp [go_sem], by simp [go_sem], World.ownsRow_nil _ _ _ _⟩⟩
  case round =>
    obtain ⟨z, v, hz1', hz2', rfl, hall, R⟩ := hrel
    have hbl := R.below
    have hc0 := R.c0
    have hc1 := R.c1
    have hf1 := R.f1
    have r0 : wr.cell? ⟨w.heap.size, 0, none⟩ = some (.bool false) := by rw [hbl.cell (p := ⟨w.heap.size, 0, none⟩) (by simp)]; simp [go_sem]
    have r1 : wr.cell? ⟨w.heap.size, 1, none⟩ = some (.slice none 0 0) := by rw [hbl.cell (p := ⟨w.heap.size, 1, none⟩) (by simp)]; simp [go_sem]
    have g0 : wr.frozen? ⟨w.heap.size, 0, none⟩ = false := by rw [hbl.frozen (p := ⟨w.heap.size, 0, none⟩) (by simp)]; simp [go_sem]
    have g1 : wr.frozen? ⟨w.heap.size, 1, none⟩ = false := by rw [hbl.frozen (p := ⟨w.heap.size, 1, none⟩) (by simp)]; simp [go_sem]
    have hB : Below w.heap.size w wr := (below1 w _).trans (hbl.mono (by omega))
    have hsz := R.size
    have RR := Lib.hid R; clear R hbl
    by_cases hz : 0 ≤ z
    · obtain ⟨m, rfl⟩ := Int.eq_ofNat_of_zero_le (show 0 ≤ z by omega)
      have hms : m < s.size := by omega
      have hms2 : m < s.data.toList.length := by rw [HLEN.out]; exact hms
      have hget : s.data.toList[m] = s[m] := rfl
      have HGET := Lib.hid hget; clear hget
      rw [show ((m : Int) + 1).toNat = m + 1 from by omega] at hall RR
      by_cases hdg : 48 ≤ s[m].toNat ∧ s[m].toNat ≤ 57
      · obtain ⟨d1, d2⟩ := hdg
        have d1' : ¬ (s[m].toNat : Int) < 48 := by omega
        have d2' : ¬ 57 < (s[m].toNat : Int) := by omega
        have e1 : (s[m].toNat : Int) - 48 = ((s[m].toNat - 48 : Nat) : Int) := by omega
        have E1 := Lib.hid e1; clear e1
        have hl2 : (dgs s.data.toList (m + 1)).length ≤ 1000 := by rw [dgs_len, HLEN.out]; omega
        have RO : wr.drew.ownsRow (w.heap.size + 1 + 1) 5 1 v (dgs s.data.toList (m + 1)).length (vs (dgs s.data.toList (m + 1))) := RR.out.own
        have RO := Lib.hid RO
        have enew := World.new_ne wr _ hc1
        have wu : IntKind.u8.wrap ((s[m].toNat : Int) - 48) = (s[m].toNat : Int) - 48 := IntWalk.u8_in _ (by omega)
        go_upto_region 13 with fail
        go_region_law (
          refine step_append_own rfl (.tmp 52) (.tmp 57) 55 rfl (w.heap.size + 1 + 1) 5 i0 (.int .u8 0) 1 1 Tryd.underlying55 hi hz0 hz1 hz2 rfl (by decide) v (dgs s.data.toList (m + 1)).length (vs (dgs s.data.toList (m + 1))) rfl (RO.out.alloc _) ⟨wr.heap.size, 0, none⟩ 1 1 [.int .u8 ((s[m].toNat : Int) - 48)] rfl rfl (fun j u h => one_new wr _ _ j u h) (by intro u hu; simp at hu; subst hu; rfl) (by unfold maxLen; omega) (by omega) (size_newN _ 1 _ _ RR.out.size) ?_
          intro v' w' hown' hgrow _
          obtain ⟨a', cap', rfl⟩ := own_shape hown'
          rw [E1.out] at hown'
          obtain ⟨hR, k1, kf1⟩ := RR.out.round (((Below.refl _ _).alloc (by simp) _).drew) hgrow _ hown'
          have HR := Lib.hid hR; clear hR
          clear hown' hgrow)
        all_goals
          go_wp2_with fail
          go_roundw
          case rel => exact ⟨(m : Int) - 1, _, by omega, by omega, by simp, Lib.hid (by
              rw [show ((m : Int) - 1 + 1).toNat = m from by omega]
              exact all_step _ m hms2 hall.out (by rw [HGET.out]; unfold dig; exact ⟨d1, d2⟩)), by
              rw [show ((m : Int) - 1 + 1).toNat = m from by omega, dgs_step _ m hms2, HGET.out]
              exact HR.out⟩
          case measure => simp [intOf]
      · have hB2 := (hB.setCell (p := ⟨w.heap.size, 0, none⟩) (Nat.le_refl _) (.bool false)).setCell (p := ⟨w.heap.size, 1, none⟩) (Nat.le_refl _) (.slice none 0 0)
        have HB := Lib.hid hB2; clear hB hB2
        have hx : s[m].toNat < 48 ∨ (¬ s[m].toNat < 48 ∧ 57 < s[m].toNat) := by omega
        clear hdg
        rcases hx with x1 | ⟨x1, x2⟩
        · have x1' : (s[m].toNat : Int) < 48 := by omega
          clear x1
          go_wp2_with fail
          exact bodyPost_ret (v := .tuple #[.agg #[.bool false, .slice none 0 0], .bool false]) (by simp [results, Tryd.results32, go_sem, r0, r1]) rfl ⟨rfl, HB.out⟩
        · have x1' : ¬ (s[m].toNat : Int) < 48 := by omega
          have x2' : 57 < (s[m].toNat : Int) := by omega
          clear x1 x2
          go_wp2_with fail
          exact bodyPost_ret (v := .tuple #[.agg #[.bool false, .slice none 0 0], .bool false]) (by simp [results, Tryd.results32, go_sem, r0, r1]) rfl ⟨rfl, HB.out⟩

    · exact absurd (by have h := hall.out; rw [show (z + 1).toNat = 0 from by omega] at h; exact h) HDIG.out

set_option maxRecDepth 100000 in
set_option maxHeartbeats 2000000 in
theorem rparse_zok (s : ByteArray)  (hn : s.size = 1) (h0 : ((s[0].toNat : Int) == 45) = false) (h1 : ((s[0].toNat : Int) == 48) = true) (hd : ∀ c ∈ s.data.toList.drop 0, dig c) (w : World) :
    Calls Tryd.prog 32 #[.string s] w (ReadAs (nv false (dgs s.data.toList 0)) w) := by
  obtain ⟨i0, hi, hz0, hz1, hz2⟩ := info_parts info5
  have HDIG := Lib.hid hd; clear hd
  have hlen : s.data.toList.length = s.size := Array.length_toList
  have HLEN := Lib.hid hlen; clear hlen
  have h2 : ((s.size : Int) == 0) = false := beq_eq_false_iff_ne.2 (by omega)
  have h3 : ¬ 1 < (s.size : Int) := by omega
  go_enter Tryd.func32, Tryd.ntmps32
  go_wp2_with fail
  go_loopw [6] (fun i wr => ∃ (z : Int) (v : Value), 0 - 1 ≤ z ∧ z < s.size ∧ i = .int .i64 z ∧ Hid (∀ c ∈ s.data.toList.drop (z + 1).toNat, dig c) ∧ SumRel (w.heap.size + 1) false (w.alloc (.cells #[.bool false, .slice none 0 0] NT)) (dgs s.data.toList (z + 1).toNat) v wr) (fun i _ => (intOf i + 1).toNat)
  case atStart => exact ⟨(s.size : Int) - 1, .slice none 0 0, by omega, by omega, (by first | rfl | (rw [hn]; rfl)), Lib.hid (by
      rw [show ((s.size : Int) - 1 + 1).toNat = s.data.toList.length from by rw [HLEN.out]; omega, List.drop_length]; simp), by
      rw [show ((s.size : Int) - 1 + 1).toNat = s.data.toList.length from by rw [HLEN.out]; omega, dgs_end]
      exact ⟨(Below.refl _ _).alloc (by simp) _, by simp, by simp [go_sem], by simp [go_sem], by simp [go_sem], by simp [go_sem], World.ownsRow_nil _ _ _ _⟩⟩
  case round =>
    obtain ⟨z, v, hz1', hz2', rfl, hall, R⟩ := hrel
    have hbl := R.below
    have hc0 := R.c0
    have hc1 := R.c1
    have hf1 := R.f1
    have r0 : wr.cell? ⟨w.heap.size, 0, none⟩ = some (.bool false) := by rw [hbl.cell (p := ⟨w.heap.size, 0, none⟩) (by simp)]; simp [go_sem]
    have r1 : wr.cell? ⟨w.heap.size, 1, none⟩ = some (.slice none 0 0) := by rw [hbl.cell (p := ⟨w.heap.size, 1, none⟩) (by simp)]; simp [go_sem]
    have g0 : wr.frozen? ⟨w.heap.size, 0, none⟩ = false := by rw [hbl.frozen (p := ⟨w.heap.size, 0, none⟩) (by simp)]; simp [go_sem]
    have g1 : wr.frozen? ⟨w.heap.size, 1, none⟩ = false := by rw [hbl.frozen (p := ⟨w.heap.size, 1, none⟩) (by simp)]; simp [go_sem]
    have hB : Below w.heap.size w wr := (below1 w _).trans (hbl.mono (by omega))
    have hsz := R.size
    have RR := Lib.hid R; clear R hbl
    by_cases hz : 0 ≤ z
    · obtain ⟨m, rfl⟩ := Int.eq_ofNat_of_zero_le (show 0 ≤ z by omega)
      have hms : m < s.size := by omega
      have hms2 : m < s.data.toList.length := by rw [HLEN.out]; exact hms
      have hget : s.data.toList[m] = s[m] := rfl
      have HGET := Lib.hid hget; clear hget
      rw [show ((m : Int) + 1).toNat = m + 1 from by omega] at hall RR
      by_cases hdg : 48 ≤ s[m].toNat ∧ s[m].toNat ≤ 57
      · obtain ⟨d1, d2⟩ := hdg
        have d1' : ¬ (s[m].toNat : Int) < 48 := by omega
        have d2' : ¬ 57 < (s[m].toNat : Int) := by omega
        have e1 : (s[m].toNat : Int) - 48 = ((s[m].toNat - 48 : Nat) : Int) := by omega
        have E1 := Lib.hid e1; clear e1
        have hl2 : (dgs s.data.toList (m + 1)).length ≤ 1000 := by rw [dgs_len, HLEN.out]; omega
        have RO : wr.drew.ownsRow (w.heap.size + 1 + 1) 5 1 v (dgs s.data.toList (m + 1)).length (vs (dgs s.data.toList (m + 1))) := RR.out.own
        have RO := Lib.hid RO
        have enew := World.new_ne wr _ hc1
        have wu : IntKind.u8.wrap ((s[m].toNat : Int) - 48) = (s[m].toNat : Int) - 48 := IntWalk.u8_in _ (by omega)
        go_upto_region 13 with fail
        go_region_law (
          refine step_append_own rfl (.tmp 52) (.tmp 57) 55 rfl (w.heap.size + 1 + 1) 5 i0 (.int .u8 0) 1 1 Tryd.underlying55 hi hz0 hz1 hz2 rfl (by decide) v (dgs s.data.toList (m + 1)).length (vs (dgs s.data.toList (m + 1))) rfl (RO.out.alloc _) ⟨wr.heap.size, 0, none⟩ 1 1 [.int .u8 ((s[m].toNat : Int) - 48)] rfl rfl (fun j u h => one_new wr _ _ j u h) (by intro u hu; simp at hu; subst hu; rfl) (by unfold maxLen; omega) (by omega) (size_newN _ 1 _ _ RR.out.size) ?_
          intro v' w' hown' hgrow _
          obtain ⟨a', cap', rfl⟩ := own_shape hown'
          rw [E1.out] at hown'
          obtain ⟨hR, k1, kf1⟩ := RR.out.round (((Below.refl _ _).alloc (by simp) _).drew) hgrow _ hown'
          have HR := Lib.hid hR; clear hR
          clear hown' hgrow)
        all_goals
          go_wp2_with fail
          go_roundw
          case rel => exact ⟨(m : Int) - 1, _, by omega, by omega, by simp, Lib.hid (by
              rw [show ((m : Int) - 1 + 1).toNat = m from by omega]
              exact all_step _ m hms2 hall.out (by rw [HGET.out]; unfold dig; exact ⟨d1, d2⟩)), by
              rw [show ((m : Int) - 1 + 1).toNat = m from by omega, dgs_step _ m hms2, HGET.out]
              exact HR.out⟩
          case measure => simp [intOf]
      · exact absurd (HDIG.out _ (mem_drop_at _ 0 m (by omega) hms2)) (by rw [HGET.out]; exact hdg)
    · obtain ⟨a, cap, rfl, hD, hf⟩ := own_digs RR.out.own (by rw [dgs_len, HLEN.out]; omega)
      rw [show (z + 1).toNat = 0 from by omega] at hD hall
      have h9 := dgs_nine _ _ hall.out
      have ct := fun (w1 : World) (h : Digs w1 (.slice a (dgs s.data.toList 0).length cap) (dgs s.data.toList 0)) => ref_trim false _ (dgs s.data.toList 0) w1 h h9
      have CT := Lib.hid ct; clear ct
      have HD := Lib.hid hD; clear hD
      have HF := Lib.hid hf; clear hf
      have HB := Lib.hid hB; clear hB
      rw [show (z + 1).toNat = 0 from by omega] at hc1
      go_wp2_with fail
      refine (CT.out _ HD.out).mono ?_
      rintro e w1 ⟨⟨a1, cap1, rfl, hd1, hf1⟩, hb1⟩
      have D1 := Lib.hid hd1; clear hd1
      have c0 : w1.cell? ⟨w.heap.size, 0, none⟩ = some (.bool false) := by rw [hb1.cell (p := ⟨w.heap.size, 0, none⟩) (show w.heap.size < wr.heap.size by omega)]; exact r0
      have c1 : w1.cell? ⟨w.heap.size, 1, none⟩ = some (.slice none 0 0) := by rw [hb1.cell (p := ⟨w.heap.size, 1, none⟩) (show w.heap.size < wr.heap.size by omega)]; exact r1
      have f0 : w1.frozen? ⟨w.heap.size, 0, none⟩ = false := by rw [hb1.frozen (p := ⟨w.heap.size, 0, none⟩) (show w.heap.size < wr.heap.size by omega)]; exact g0
      have f1 : w1.frozen? ⟨w.heap.size, 1, none⟩ = false := by rw [hb1.frozen (p := ⟨w.heap.size, 1, none⟩) (show w.heap.size < wr.heap.size by omega)]; exact g1
      have hb0 := HB.out.trans (hb1.mono (by omega))
      clear hb1 r0 r1 g0 g1
      have HF1 := Lib.hid hf1; clear hf1
      go_wp2_with fail
      refine bodyPost_ret (v := .tuple #[.agg #[.bool (decide (nv false (dgs s.data.toList 0) < 0)), .slice a1 (dg (nv false (dgs s.data.toList 0)).natAbs).length cap1], .bool true]) (by simp [results, Tryd.results32, go_sem, c0, c1]) rfl ?_
      have hne : ∀ p, a1 = some p → ¬ p.block = w.heap.size := fun p hp => by
        rcases HF1.out p hp with h | h
        · omega
        · cases a with
          | none => simp [sb] at h
          | some q => simp [sb] at h; have := HF.out q rfl; omega
      exact ⟨⟨a1, cap1, rfl, (D1.out.setCell hne).setCell hne⟩, (hb0.setCell (p := ⟨w.heap.size, 0, none⟩) (Nat.le_refl _) _).setCell (p := ⟨w.heap.size, 1, none⟩) (Nat.le_refl _) _⟩

end Go.Proofs.YtbnlomjlapnoaaaDoor.R1
