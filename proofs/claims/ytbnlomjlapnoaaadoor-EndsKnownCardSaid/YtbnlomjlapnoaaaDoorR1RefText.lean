/-
  DERIVED. CONTRACT of the reference's Text.
-/
import Derived.Test.YtbnlomjlapnoaaaDoorR1RefAdd
import Derived.Lib.ItoaNum
import Derived.Laws.BytesArg
namespace Go.Proofs.YtbnlomjlapnoaaaDoor.R1
open Go.RowKit

theorem decDigits_dg (u : Nat) (h : 0 < u) : Lib.decDigits u = (dg u).reverse.map fun d => UInt8.ofNat (48 + d) := by
  induction u using Nat.strongRecOn with
  | _ u ih =>
    rw [Lib.decDigits, dg_pos (by omega)]
    by_cases g : u < 10
    · rw [dif_pos g, show u / 10 = 0 from by omega, dg_zero, show u % 10 = u from by omega]; rfl
    · rw [dif_neg g, ih (u / 10) (by omega) (by omega)]; simp
def sgn (x : Int) : List Nat := if x < 0 then [45] else []
def textL (x : Int) : List Nat := sgn x ++ (dg x.natAbs).reverse.map (48 + ·)
theorem itoa_textL (x : Int) (h : ¬ x = 0) : Lib.itoa x = (textL x).map fun d => UInt8.ofNat d := by
  unfold Lib.itoa textL sgn
  by_cases g : x < 0
  · rw [if_pos g, if_pos g, decDigits_dg _ (by omega)]; simp [Function.comp_def]
  · rw [if_neg g, if_neg g, show x.toNat = x.natAbs from by omega, decDigits_dg _ (by omega)]; simp [Function.comp_def]
theorem drop_at0 {l : List Nat} {m : Nat} (h : m < l.length) : l.drop m = at0 l m :: l.drop (m + 1) := by
  rw [List.drop_eq_getElem_cons h]
  unfold at0
  rw [List.getD_eq_getElem?_getD, List.getElem?_eq_getElem h]; rfl
theorem conv_own {w : World} {base : Nat} {v : Value} {ds : List Nat} (h : w.ownsRow base 5 1 v ds.length (vs ds)) (hp : 0 < ds.length) :
    (convert 55 9 v).run Tryd.prog w = .ok (.string ⟨(ds.map fun d => UInt8.ofNat d).toArray⟩) w := by
  have h2 := h
  obtain ⟨_, ⟨rfl, hn⟩ | ⟨g, cap, cur, rfl, hb, hh, hc, hm, _, _⟩⟩ := h
  · omega
  · have := run_convert_bytes_arg (P := Tryd.prog) w 55 5 Tryd.underlying55 Tryd.underlying5 g 0 ds.length cap (ds.map fun (d : Nat) => (d : Int)) (by simp) (fun i hi => by
      rw [Nat.zero_add, h2.cellAt i (by omega), vs_at ds i hi]
      unfold at0
      rw [List.getD_eq_getElem?_getD, List.getD_eq_getElem?_getD, List.getElem?_map, List.getElem?_eq_getElem hi]
      rfl) 9 Tryd.underlying9
    rw [this]
    unfold strOfNums
    simp [Function.comp_def]

set_option maxHeartbeats 1000000 in
theorem text_zero (va : Value) (w : World) (h : Digs w va (dg (0 : Int).natAbs)) :
    Calls Tryd.prog 30 #[.agg #[.bool (decide ((0 : Int) < 0)), va]] w fun e w' => e = .returned (.string ⟨(Lib.itoa 0).toArray⟩) ∧ Below w.heap.size w w' := by
  obtain ⟨p1, q1, rfl⟩ := h.head
  have e : (dg (0 : Int).natAbs).length = 0 := by simp [dg_zero]
  rw [e]
  have hi : Lib.itoa 0 = [48] := by unfold Lib.itoa; rw [if_neg (by decide), Lib.decDigits]; rfl
  have HI := Lib.hid hi; clear hi e h
  go_enter Tryd.func30, Tryd.ntmps30
  go_wp2_with fail
  go_ret
  exact ⟨by rw [HI.out]; rfl, below1 _ _⟩

set_option maxRecDepth 100000 in
set_option maxHeartbeats 1000000 in
theorem text_some (x : Int) (va : Value) (w : World) (hd : Digs w va (dg x.natAbs)) (hx : (dg x.natAbs).length ≤ 1000) (h0 : ¬ x = 0) :
    Calls Tryd.prog 30 #[.agg #[.bool (decide (x < 0)), va]] w fun e w' => e = .returned (.string ⟨(Lib.itoa x).toArray⟩) ∧ Below w.heap.size w w' := by
  obtain ⟨i0, hi, hz0, hz1, hz2⟩ := info_parts info5
  have hpos : 0 < (dg x.natAbs).length := by
    rcases Nat.eq_zero_or_pos (dg x.natAbs).length with e | e
    · have := dg_nil.1 (List.length_eq_zero_iff.1 e); omega
    · exact e
  have hit := itoa_textL x h0
  unfold textL at hit
  obtain ⟨b, cap, rfl, hb, _, hcap, hmax, hcells⟩ := hd.slice hpos
  have h9 := dg_le x.natAbs
  generalize dg x.natAbs = D at *
  have HIT := Lib.hid hit; clear hit
  have HC := Lib.hid hcells; clear hcells
  have H9 := Lib.hid h9; clear h9 hd
  have hneg : (decide (x < 0) = true ∧ sgn x = [45]) ∨ (decide (x < 0) = false ∧ sgn x = []) := by
    unfold sgn
    by_cases g : x < 0
    · exact .inl ⟨decide_eq_true g, if_pos g⟩
    · exact .inr ⟨decide_eq_false g, if_neg g⟩
  clear h0
  generalize decide (x < 0) = neg at *
  generalize sgn x = S at *
  unfold maxLen at hmax
  have hl0 : ((D.length : Int) == 0) = false := beq_eq_false_iff_ne.2 (by omega)
  rcases hneg with ⟨rfl, rfl⟩ | ⟨rfl, rfl⟩
  · go_enter Tryd.func30, Tryd.ntmps30
    go_wp2_with (at_builtin; refine wpList_append_own _ rfl (.tmp 11) (.tmp 12) 55 rfl (w.heap.size + 1) 5 i0 (.int .u8 0) 1 1 Tryd.underlying55 hi hz0 hz1 hz2 rfl (by decide) (.slice none 0 0) 0 [] rfl (World.ownsRow_nil _ _ _ _) ⟨w.heap.size + 1, 0, none⟩ 1 1 [.int .u8 45] rfl rfl ?c1 ?c2 ?c3 ?c4 ?c5 ?_)
    case c1 =>
      intro j u hj
      have h := one_new (w.alloc (.cells #[.bool true, .slice (some ⟨b, 0, none⟩) D.length cap] NT)) (.int .u8 45) 5 j u hj
      rw [World.size_alloc] at h
      exact h
    case c2 => intro u hu; simp at hu; subst hu; rfl
    case c3 => unfold maxLen; omega
    case c4 => omega
    case c5 => simp
    intro v0 w0 hown0 hgrow0 _
    have h20 : Below (w.heap.size + 1) (w.alloc (.cells #[.bool true, .slice (some ⟨b, 0, none⟩) D.length cap] NT)) w0 := ((below1 (w.alloc _) _).mono (by simp)).grown hgrow0 (by simp) (fun j hj => by cases hj)
    have hA10 : w0.cell? ⟨w.heap.size, 1, none⟩ = some (.slice (some ⟨b, 0, none⟩) D.length cap) := by rw [h20.cell (p := ⟨w.heap.size, 1, none⟩) (by simp)]; simp [go_sem]
    have hs0 : w.heap.size + 1 ≤ w0.heap.size := by have := h20.size; simp at this; omega
    obtain ⟨a0, cap0, rfl⟩ := own_shape hown0
    have HO0 := Lib.hid hown0; clear hown0 hgrow0
    have HB0 := Lib.hid h20; clear h20
    go_wp2_with fail
    go_loopw [3, 4] (fun v i wr => ∃ (z : Int) (ds : List Nat), -1 ≤ z ∧ z < D.length ∧ i = .int .i64 z ∧ ds.length ≤ 1001 - z ∧ Hid (ds = ([45] : List Nat) ++ (D.drop (z + 1).toNat).reverse.map (48 + ·)) ∧ Below (w.heap.size + 1) (w.alloc (.cells #[.bool true, .slice (some ⟨b, 0, none⟩) D.length cap] NT)) wr ∧ w.heap.size + 1 ≤ wr.heap.size ∧ wr.ownsRow (w.heap.size + 1) 5 1 v ds.length (vs ds)) (fun v i _ => (intOf i + 1).toNat)
    case atStart => exact ⟨(D.length : Int) - 1, [45], by omega, by omega, rfl, by simp; omega, Lib.hid (by rw [show ((D.length : Int) - 1 + 1).toNat = D.length from by omega]; simp), HB0.out, hs0, HO0.out⟩
    case round =>
      obtain ⟨z, ds, hz1', hz2', rfl, hln, hds, hbl, hsz, hown⟩ := hrel
      have hA1 : wr.cell? ⟨w.heap.size, 1, none⟩ = some (.slice (some ⟨b, 0, none⟩) D.length cap) := by rw [hbl.cell (p := ⟨w.heap.size, 1, none⟩) (by simp)]; simp [go_sem]
      have hbw : Below w.heap.size w wr := (below1 w _).trans (hbl.mono (by omega))
      by_cases hz : 0 ≤ z
      · obtain ⟨m, rfl⟩ := Int.eq_ofNat_of_zero_le hz
        have c1 : wr.cell? ⟨b, m, none⟩ = some (.int .u8 (at0 D m)) := by rw [hbw.cell (p := ⟨b, m, none⟩) hb]; exact HC.out m (by omega)
        have k9 := at0_le D H9.out m
        have e1 : (48 : Int) + (at0 D m : Int) = ((48 + at0 D m : Nat) : Int) := by omega
        have E1 := Lib.hid e1; clear e1
        have HOWN := Lib.hid hown; clear hown
        go_wp2_with (at_builtin; refine wpList_append_own _ rfl (.tmp 22) (.tmp 29) 55 rfl (w.heap.size + 1) 5 i0 (.int .u8 0) 1 1 Tryd.underlying55 hi hz0 hz1 hz2 rfl (by decide) _ ds.length (vs ds) rfl (HOWN.out.alloc _) ⟨wr.heap.size, 0, none⟩ 1 1 [.int .u8 (48 + (at0 D m : Int))] rfl rfl (one_new _ _ _) (by intro u hu; simp at hu; subst hu; rfl) (by unfold maxLen; omega) (by omega) (by simp; omega) ?_)
        intro v' w' hown' hgrow _
        obtain ⟨a', cap', rfl⟩ := own_shape hown'
        rw [E1.out] at hown'
        have h2 : Below (w.heap.size + 1) wr w' := ((below1 wr _).mono (by omega)).grown hgrow (by simp; omega) (fun j hj => (HOWN.out.lt j hj).1)
        have hown2 : w'.ownsRow (w.heap.size + 1) 5 1 (.slice a' (ds.length + 1) cap') (ds ++ [48 + at0 D m]).length (vs (ds ++ [48 + at0 D m])) := by rw [vs_snoc, List.length_append]; exact hown'
        have HO2 := Lib.hid hown2; clear hown2
        have hs2 : w.heap.size + 1 ≤ w'.heap.size := by have := h2.size; omega
        have HB3 := Lib.hid (hbl.trans h2)
        clear hown' hgrow h2 hbl hbw
        go_wp2_with fail
        go_roundw
        case rel =>
          first
            | exact ⟨(m : Int) - 1, ds ++ [48 + at0 D m], by omega, by omega, rfl, by rw [List.length_append, List.length_singleton]; omega, Lib.hid (by
            have e := hds.out
            rw [show ((m : Int) + 1).toNat = m + 1 from by omega] at e
            rw [show ((m : Int) - 1 + 1).toNat = m from by omega, drop_at0 (by omega), e]
            simp), HB3.out, hs2, HO2.out⟩
            | ((repeat apply Exists.intro); exact ⟨⟨(m : Int) - 1, ds ++ [48 + at0 D m], by omega, by omega, rfl, by rw [List.length_append, List.length_singleton]; omega, Lib.hid (by
            have e := hds.out
            rw [show ((m : Int) + 1).toNat = m + 1 from by omega] at e
            rw [show ((m : Int) - 1 + 1).toNat = m from by omega, drop_at0 (by omega), e]
            simp), HB3.out, hs2, HO2.out⟩, rfl⟩)
        case measure => simp [intOf] <;> omega
      · have hz3 : z = -1 := by omega
        subst hz3
        have hd2 : ds = ([45] : List Nat) ++ D.reverse.map (48 + ·) := hds.out
        have hp : 0 < ds.length := by rw [hd2]; simp <;> omega
        have hcv := conv_own hown hp
        have hfin : ds.map (fun d => UInt8.ofNat d) = Lib.itoa x := by rw [HIT.out, hd2]
        rw [hfin] at hcv
        obtain ⟨a', cap', rfl⟩ := own_shape hown
        clear hd2 hp hfin hown
        go_wp2_with fail
        go_ret
        exact ⟨rfl, hbw⟩
  · go_enter Tryd.func30, Tryd.ntmps30
    go_wp2_with fail
    go_loopw [3, 4] (fun v i wr => ∃ (z : Int) (ds : List Nat), -1 ≤ z ∧ z < D.length ∧ i = .int .i64 z ∧ ds.length ≤ 1001 - z ∧ Hid (ds = ([] : List Nat) ++ (D.drop (z + 1).toNat).reverse.map (48 + ·)) ∧ Below (w.heap.size + 1) (w.alloc (.cells #[.bool false, .slice (some ⟨b, 0, none⟩) D.length cap] NT)) wr ∧ w.heap.size + 1 ≤ wr.heap.size ∧ wr.ownsRow (w.heap.size + 1) 5 1 v ds.length (vs ds)) (fun v i _ => (intOf i + 1).toNat)
    case atStart => exact ⟨(D.length : Int) - 1, [], by omega, by omega, rfl, by simp; omega, Lib.hid (by rw [show ((D.length : Int) - 1 + 1).toNat = D.length from by omega]; simp), Below.refl _ _, by simp, World.ownsRow_nil _ _ _ _⟩
    case round =>
      obtain ⟨z, ds, hz1', hz2', rfl, hln, hds, hbl, hsz, hown⟩ := hrel
      have hA1 : wr.cell? ⟨w.heap.size, 1, none⟩ = some (.slice (some ⟨b, 0, none⟩) D.length cap) := by rw [hbl.cell (p := ⟨w.heap.size, 1, none⟩) (by simp)]; simp [go_sem]
      have hbw : Below w.heap.size w wr := (below1 w _).trans (hbl.mono (by omega))
      by_cases hz : 0 ≤ z
      · obtain ⟨m, rfl⟩ := Int.eq_ofNat_of_zero_le hz
        have c1 : wr.cell? ⟨b, m, none⟩ = some (.int .u8 (at0 D m)) := by rw [hbw.cell (p := ⟨b, m, none⟩) hb]; exact HC.out m (by omega)
        have k9 := at0_le D H9.out m
        have e1 : (48 : Int) + (at0 D m : Int) = ((48 + at0 D m : Nat) : Int) := by omega
        have E1 := Lib.hid e1; clear e1
        have HOWN := Lib.hid hown; clear hown
        go_wp2_with (at_builtin; refine wpList_append_own _ rfl (.tmp 22) (.tmp 29) 55 rfl (w.heap.size + 1) 5 i0 (.int .u8 0) 1 1 Tryd.underlying55 hi hz0 hz1 hz2 rfl (by decide) _ ds.length (vs ds) rfl (HOWN.out.alloc _) ⟨wr.heap.size, 0, none⟩ 1 1 [.int .u8 (48 + (at0 D m : Int))] rfl rfl (one_new _ _ _) (by intro u hu; simp at hu; subst hu; rfl) (by unfold maxLen; omega) (by omega) (by simp; omega) ?_)
        intro v' w' hown' hgrow _
        obtain ⟨a', cap', rfl⟩ := own_shape hown'
        rw [E1.out] at hown'
        have h2 : Below (w.heap.size + 1) wr w' := ((below1 wr _).mono (by omega)).grown hgrow (by simp; omega) (fun j hj => (HOWN.out.lt j hj).1)
        have hown2 : w'.ownsRow (w.heap.size + 1) 5 1 (.slice a' (ds.length + 1) cap') (ds ++ [48 + at0 D m]).length (vs (ds ++ [48 + at0 D m])) := by rw [vs_snoc, List.length_append]; exact hown'
        have HO2 := Lib.hid hown2; clear hown2
        have hs2 : w.heap.size + 1 ≤ w'.heap.size := by have := h2.size; omega
        have HB3 := Lib.hid (hbl.trans h2)
        clear hown' hgrow h2 hbl hbw
        go_wp2_with fail
        go_roundw
        case rel =>
          first
            | exact ⟨(m : Int) - 1, ds ++ [48 + at0 D m], by omega, by omega, rfl, by rw [List.length_append, List.length_singleton]; omega, Lib.hid (by
            have e := hds.out
            rw [show ((m : Int) + 1).toNat = m + 1 from by omega] at e
            rw [show ((m : Int) - 1 + 1).toNat = m from by omega, drop_at0 (by omega), e]
            simp), HB3.out, hs2, HO2.out⟩
            | ((repeat apply Exists.intro); exact ⟨⟨(m : Int) - 1, ds ++ [48 + at0 D m], by omega, by omega, rfl, by rw [List.length_append, List.length_singleton]; omega, Lib.hid (by
            have e := hds.out
            rw [show ((m : Int) + 1).toNat = m + 1 from by omega] at e
            rw [show ((m : Int) - 1 + 1).toNat = m from by omega, drop_at0 (by omega), e]
            simp), HB3.out, hs2, HO2.out⟩, rfl⟩)
        case measure => simp [intOf] <;> omega
      · have hz3 : z = -1 := by omega
        subst hz3
        have hd2 : ds = ([] : List Nat) ++ D.reverse.map (48 + ·) := hds.out
        have hp : 0 < ds.length := by rw [hd2]; simp <;> omega
        have hcv := conv_own hown hp
        have hfin : ds.map (fun d => UInt8.ofNat d) = Lib.itoa x := by rw [HIT.out, hd2]
        rw [hfin] at hcv
        obtain ⟨a', cap', rfl⟩ := own_shape hown
        clear hd2 hp hfin hown
        go_wp2_with fail
        go_ret
        exact ⟨rfl, hbw⟩

theorem ref_text (x : Int) (va : Value) (w : World) (hd : Digs w va (dg x.natAbs)) (hx : (dg x.natAbs).length ≤ 1000) :
    Calls Tryd.prog 30 #[.agg #[.bool (decide (x < 0)), va]] w fun e w' => e = .returned (.string ⟨(Lib.itoa x).toArray⟩) ∧ Below w.heap.size w w' := by
  by_cases h : x = 0
  · subst h; exact text_zero va w hd
  · exact text_some x va w hd hx h
end Go.Proofs.YtbnlomjlapnoaaaDoor.R1
