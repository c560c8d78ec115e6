/-
  DERIVED. CONTRACT of the reference of layer 3 (masks): Common. Written by mkcommon.py.
-/
import Derived.Test.YtabhfpfnaaihjaaMkRefC
import Derived.Laws.BytesArg
import Derived.BigQuiet
namespace Go.Proofs.Ytabhfpfnaaihjaa
open Go.RowKit

/-! rows of bytes that a call makes -/
theorem info5 : (Try.prog.info? 5).map (fun i => (i.zero, i.size, i.bytes)) = some (some (.int .u8 0), 1, 1) := by kernel_rfl
theorem info5_parts : ∃ i, Try.prog.info? 5 = some i ∧ i.zero = some (.int .u8 0) ∧ i.size = 1 ∧ i.bytes = 1 := by
  have h := info5
  cases e : Try.prog.info? 5 with
  | none => rw [e] at h; cases h
  | some i =>
    rw [e] at h
    simp only [Option.map_some, Option.some.injEq, Prod.mk.injEq] at h
    exact ⟨i, rfl, h.1, h.2.1, h.2.2⟩
def vs (l : List Nat) : List Value := l.map fun (d : Nat) => Value.int .u8 (d : Int)
theorem vs_snoc (l : List Nat) (d : Nat) : vs (l ++ [d]) = vs l ++ [.int .u8 d] := by simp [vs]
theorem vs_length (l : List Nat) : (vs l).length = l.length := by simp [vs]
theorem vs_at (l : List Nat) (i : Nat) (h : i < l.length) : (vs l)[i]? = some (.int .u8 (l.getD i 0 : Nat)) := by
  unfold vs
  rw [List.getElem?_map, List.getD_eq_getElem?_getD, List.getElem?_eq_getElem h]; rfl
theorem own_shape {w : World} {base : Nat} {e : TypeId} {v : Value} {n : Nat} {xs : List Value} (h : w.ownsRow base e 1 v n xs) : ∃ a cap, v = .slice a n cap := by
  obtain ⟨_, ⟨rfl, rfl⟩ | ⟨g, cap, cur, rfl, _⟩⟩ := h
  · exact ⟨none, 0, rfl⟩
  · exact ⟨_, cap, rfl⟩
theorem one_new (w : World) (x : Value) (t : TypeId) : ∀ j u, [x][j]? = some u → (w.alloc (.cells #[x] t)).cell? ((⟨w.heap.size, 0, none⟩ : Addr).add j) = some u := by
  intro j u hj
  match j, hj with
  | 0, hj => simp at hj; subst hj; simp [Addr.add]
  | j + 1, hj => simp at hj
theorem conv_own {w : World} {base : Nat} {v : Value} {ds : List Nat} (h : w.ownsRow base 5 1 v ds.length (vs ds)) (hp : 0 < ds.length) :
    (convert 22 9 v).run Try.prog w = .ok (.string ⟨(ds.map fun d => UInt8.ofNat d).toArray⟩) w := by
  have h2 := h
  obtain ⟨_, ⟨rfl, hn⟩ | ⟨g, cap, cur, rfl, hb, hh, hc, hm, _, _⟩⟩ := h
  · omega
  · have := run_convert_bytes_arg (P := Try.prog) w 22 5 Try.underlying22 Try.underlying5 g 0 ds.length cap (ds.map fun (d : Nat) => (d : Int)) (by simp) (fun i hi => by
      rw [Nat.zero_add, h2.cellAt i (by omega), vs_at ds i hi]
      rw [List.getD_eq_getElem?_getD, List.getD_eq_getElem?_getD, List.getElem?_map, List.getElem?_eq_getElem hi]
      rfl) 9 Try.underlying9
    rw [this]
    unfold strOfNums
    simp [Function.comp_def]

/-! the common mask, place by place -/
def cm (a b : Nat) : Nat := if a = 88 then b else a
def fitB (a b : Nat) : Bool := b == 88 || b == cm a b
def comL (s t : List Nat) : List Nat := List.zipWith cm s t
def comOk (s t : List Nat) : Bool := (List.zipWith fitB s t).all id
theorem comL_snoc {s t : List Nat} (h : s.length = t.length) (a b : Nat) : comL (s ++ [a]) (t ++ [b]) = comL s t ++ [cm a b] := by
  unfold comL; rw [List.zipWith_append h]; rfl
theorem comOk_snoc {s t : List Nat} (h : s.length = t.length) (a b : Nat) : comOk (s ++ [a]) (t ++ [b]) = (comOk s t && fitB a b) := by
  unfold comOk; rw [List.zipWith_append h, List.all_append]; simp
theorem comOk_bad {s t : List Nat} {m : Nat} (h : comOk (s.take m) (t.take m) = false) : comOk s t = false := by
  unfold comOk at *
  rw [List.all_eq_false] at *
  obtain ⟨x, hx, hn⟩ := h
  refine ⟨x, ?_, hn⟩
  rw [← List.take_zipWith] at hx
  exact List.mem_of_mem_take hx
def comS (a b : ByteArray) : ByteArray := if comOk (fwd a) (fwd b) = true then ⟨((comL (fwd a) (fwd b)).map fun d => UInt8.ofNat d).toArray⟩ else ⟨#[]⟩
theorem ret_str {a b : ByteArray} {x y : Bool} (h : a = b) (g : x = y) : Ending.returned (.tuple #[.string a, .bool x]) = .returned (.tuple #[.string b, .bool y]) := by rw [h, g]
theorem fwd_take_len {s : ByteArray} {m : Nat} (h : m ≤ s.size) : ((fwd s).take m).length = m := by rw [List.length_take, fwd_len]; omega
set_option maxRecDepth 100000 in
set_option maxHeartbeats 2000000 in
theorem refCommon_is {a b : ByteArray} (w : World) (h1 : 1 ≤ a.size) (h2 : a.size ≤ 18) (hab : b.size = a.size) :
    Calls Try.prog 29 #[.string a, .string b] w fun e w' => e = .returned (.tuple #[.string (comS a b), .bool (comOk (fwd a) (fwd b))]) ∧ Below w.heap.size w w' := by
  obtain ⟨i0, hi, hz0, hz1, hz2⟩ := info5_parts
  have HAB := Kp.mk hab
  have HN := Kp.mk h1
  clear hab h1
  go_enter Try.func29, Try.ntmps29
  go_wp2_with fail
  go_loopw [6, 7] (fun v i wr => ∃ (m : Nat) (ds : List Nat), m ≤ a.size ∧ i = .int .i64 m ∧ Kp (ds.length = m ∧ ds = comL ((fwd a).take m) ((fwd b).take m) ∧ comOk ((fwd a).take m) ((fwd b).take m) = true) ∧ Below w.heap.size w wr ∧ wr.ownsRow w.heap.size 5 1 v ds.length (vs ds)) (fun _ i _ => a.size - (intOf i).toNat)
  case atStart => exact ⟨0, [], by omega, rfl, Kp.mk ⟨rfl, by simp [comL], by simp [comOk]⟩, Below.refl _ _, World.ownsRow_nil _ _ _ _⟩
  case round =>
    obtain ⟨m, ds, hm, rfl, HV, hbl, hown⟩ := hrel
    by_cases hlt : m < a.size
    · have hlt2 : m < b.size := by have := HAB.out; omega
      have hL : comL ((fwd a).take (m + 1)) ((fwd b).take (m + 1)) = ds ++ [cm a[m].toNat b[m].toNat] := by
        rw [fwd_snoc hlt, fwd_snoc hlt2, comL_snoc (by rw [fwd_take_len (by omega), fwd_take_len (by omega)]), HV.out.2.1]
      have hO : comOk ((fwd a).take (m + 1)) ((fwd b).take (m + 1)) = fitB a[m].toNat b[m].toNat := by
        rw [fwd_snoc hlt, fwd_snoc hlt2, comOk_snoc (by rw [fwd_take_len (by omega), fwd_take_len (by omega)]), HV.out.2.2]; rfl
      have ha256 : a[m].toNat < 256 := a[m].toNat_lt
      have hb256 : b[m].toNat < 256 := b[m].toNat_lt
      have hdb : ds.length ≤ 18 := by have := HV.out.1; omega
      have HDL := Kp.mk HV.out.1
      have HL := Kp.mk hL
      have HO := Kp.mk hO
      clear hL hO HV
      obtain ⟨a', cap', rfl⟩ := own_shape hown
      have HOWN := Kp.mk hown
      have HBL := Kp.mk hbl
      clear hown hbl
      by_cases ga : a[m].toNat = 88
      · have e1 : ((a[m].toNat : Int) == 88) = true := by rw [beq_iff_eq]; omega
        have e3 : ((b[m].toNat : Int) != (b[m].toNat : Int)) = false := by simp
        by_cases gb : b[m].toNat = 88
        · have e2 : ((b[m].toNat : Int) != 88) = false := by rw [bne_eq_false_iff_eq]; omega
          have hfit : fitB a[m].toNat b[m].toNat = true := by unfold fitB cm; simp [gb]
          have HF := Kp.mk hfit
          have hcm : cm a[m].toNat b[m].toNat = b[m].toNat := by unfold cm; rw [if_pos ga]
          have HC := Kp.mk hcm
          clear hfit hcm ga gb
          go_wp2_with (at_builtin; refine wpList_append_own _ rfl (.tmp 34) (.tmp 36) 22 rfl w.heap.size 5 i0 (.int .u8 0) 1 1 Try.underlying22 hi hz0 hz1 hz2 rfl (by decide) _ ds.length (vs ds) rfl (HOWN.out.alloc _) ⟨wr.heap.size, 0, none⟩ 1 1 [.int .u8 (b[m].toNat : Nat)] rfl rfl (one_new _ _ _) (by intro u hu; simp at hu; subst hu; rfl) (by unfold maxLen; omega) (by omega) (by have := HBL.out.size; simp; omega) ?_)
          intro v' w' hown' hgrow _
          obtain ⟨a2, cap2, rfl⟩ := own_shape hown'
          have h2 : Below w.heap.size wr w' := ((Below.refl w.heap.size wr).alloc (by have := HBL.out.size; omega) _).grown hgrow (by have := HBL.out.size; simp; omega) (fun j hj => (HOWN.out.lt j hj).1)
          have hown2 : w'.ownsRow w.heap.size 5 1 (.slice a2 (ds.length + 1) cap2) (ds ++ [cm a[m].toNat b[m].toNat]).length (vs (ds ++ [cm a[m].toNat b[m].toNat])) := by rw [HC.out, vs_snoc, List.length_append]; exact hown'
          have HO2 := Kp.mk hown2; clear hown2
          have HB3 := Kp.mk (HBL.out.trans h2)
          clear hown' hgrow h2
          go_wp2_with fail
          go_roundw
          case rel =>
            first
              | exact ⟨m + 1, ds ++ [cm a[m].toNat b[m].toNat], by omega, by go_num, Kp.mk ⟨by rw [List.length_append, List.length_singleton, HDL.out], HL.out.symm, HO.out.trans HF.out⟩, HB3.out, HO2.out⟩
              | ((repeat apply Exists.intro); exact ⟨⟨m + 1, ds ++ [cm a[m].toNat b[m].toNat], by omega, by go_num, Kp.mk ⟨by rw [List.length_append, List.length_singleton, HDL.out], HL.out.symm, HO.out.trans HF.out⟩, HB3.out, HO2.out⟩, rfl⟩)
          case measure => simp [intOf] <;> omega
        · have e2 : ((b[m].toNat : Int) != 88) = true := by rw [bne_iff_ne]; omega
          have hfit : fitB a[m].toNat b[m].toNat = true := by unfold fitB cm; simp [ga]
          have HF := Kp.mk hfit
          have hcm : cm a[m].toNat b[m].toNat = b[m].toNat := by unfold cm; rw [if_pos ga]
          have HC := Kp.mk hcm
          clear hfit hcm ga gb
          go_wp2_with (at_builtin; refine wpList_append_own _ rfl (.tmp 34) (.tmp 36) 22 rfl w.heap.size 5 i0 (.int .u8 0) 1 1 Try.underlying22 hi hz0 hz1 hz2 rfl (by decide) _ ds.length (vs ds) rfl (HOWN.out.alloc _) ⟨wr.heap.size, 0, none⟩ 1 1 [.int .u8 (b[m].toNat : Nat)] rfl rfl (one_new _ _ _) (by intro u hu; simp at hu; subst hu; rfl) (by unfold maxLen; omega) (by omega) (by have := HBL.out.size; simp; omega) ?_)
          intro v' w' hown' hgrow _
          obtain ⟨a2, cap2, rfl⟩ := own_shape hown'
          have h2 : Below w.heap.size wr w' := ((Below.refl w.heap.size wr).alloc (by have := HBL.out.size; omega) _).grown hgrow (by have := HBL.out.size; simp; omega) (fun j hj => (HOWN.out.lt j hj).1)
          have hown2 : w'.ownsRow w.heap.size 5 1 (.slice a2 (ds.length + 1) cap2) (ds ++ [cm a[m].toNat b[m].toNat]).length (vs (ds ++ [cm a[m].toNat b[m].toNat])) := by rw [HC.out, vs_snoc, List.length_append]; exact hown'
          have HO2 := Kp.mk hown2; clear hown2
          have HB3 := Kp.mk (HBL.out.trans h2)
          clear hown' hgrow h2
          go_wp2_with fail
          go_roundw
          case rel =>
            first
              | exact ⟨m + 1, ds ++ [cm a[m].toNat b[m].toNat], by omega, by go_num, Kp.mk ⟨by rw [List.length_append, List.length_singleton, HDL.out], HL.out.symm, HO.out.trans HF.out⟩, HB3.out, HO2.out⟩
              | ((repeat apply Exists.intro); exact ⟨⟨m + 1, ds ++ [cm a[m].toNat b[m].toNat], by omega, by go_num, Kp.mk ⟨by rw [List.length_append, List.length_singleton, HDL.out], HL.out.symm, HO.out.trans HF.out⟩, HB3.out, HO2.out⟩, rfl⟩)
          case measure => simp [intOf] <;> omega
      · have e1 : ((a[m].toNat : Int) == 88) = false := by rw [beq_eq_false_iff_ne]; omega
        by_cases gb : b[m].toNat = 88
        · have e2 : ((b[m].toNat : Int) != 88) = false := by rw [bne_eq_false_iff_eq]; omega
          have hfit : fitB a[m].toNat b[m].toNat = true := by unfold fitB cm; simp [gb]
          have HF := Kp.mk hfit
          have hcm : cm a[m].toNat b[m].toNat = a[m].toNat := by unfold cm; rw [if_neg ga]
          have HC := Kp.mk hcm
          clear hfit hcm ga gb
          go_wp2_with (at_builtin; refine wpList_append_own _ rfl (.tmp 34) (.tmp 36) 22 rfl w.heap.size 5 i0 (.int .u8 0) 1 1 Try.underlying22 hi hz0 hz1 hz2 rfl (by decide) _ ds.length (vs ds) rfl (HOWN.out.alloc _) ⟨wr.heap.size, 0, none⟩ 1 1 [.int .u8 (a[m].toNat : Nat)] rfl rfl (one_new _ _ _) (by intro u hu; simp at hu; subst hu; rfl) (by unfold maxLen; omega) (by omega) (by have := HBL.out.size; simp; omega) ?_)
          intro v' w' hown' hgrow _
          obtain ⟨a2, cap2, rfl⟩ := own_shape hown'
          have h2 : Below w.heap.size wr w' := ((Below.refl w.heap.size wr).alloc (by have := HBL.out.size; omega) _).grown hgrow (by have := HBL.out.size; simp; omega) (fun j hj => (HOWN.out.lt j hj).1)
          have hown2 : w'.ownsRow w.heap.size 5 1 (.slice a2 (ds.length + 1) cap2) (ds ++ [cm a[m].toNat b[m].toNat]).length (vs (ds ++ [cm a[m].toNat b[m].toNat])) := by rw [HC.out, vs_snoc, List.length_append]; exact hown'
          have HO2 := Kp.mk hown2; clear hown2
          have HB3 := Kp.mk (HBL.out.trans h2)
          clear hown' hgrow h2
          go_wp2_with fail
          go_roundw
          case rel =>
            first
              | exact ⟨m + 1, ds ++ [cm a[m].toNat b[m].toNat], by omega, by go_num, Kp.mk ⟨by rw [List.length_append, List.length_singleton, HDL.out], HL.out.symm, HO.out.trans HF.out⟩, HB3.out, HO2.out⟩
              | ((repeat apply Exists.intro); exact ⟨⟨m + 1, ds ++ [cm a[m].toNat b[m].toNat], by omega, by go_num, Kp.mk ⟨by rw [List.length_append, List.length_singleton, HDL.out], HL.out.symm, HO.out.trans HF.out⟩, HB3.out, HO2.out⟩, rfl⟩)
          case measure => simp [intOf] <;> omega
        · have e2 : ((b[m].toNat : Int) != 88) = true := by rw [bne_iff_ne]; omega
          by_cases gc : b[m].toNat = a[m].toNat
          · have e3 : ((b[m].toNat : Int) != (a[m].toNat : Int)) = false := by rw [bne_eq_false_iff_eq]; omega
            have hfit : fitB a[m].toNat b[m].toNat = true := by unfold fitB cm; simp [ga, gc]
            have HF := Kp.mk hfit
            have hcm : cm a[m].toNat b[m].toNat = a[m].toNat := by unfold cm; rw [if_neg ga]
            have HC := Kp.mk hcm
            clear hfit hcm ga gb gc
            go_wp2_with (at_builtin; refine wpList_append_own _ rfl (.tmp 34) (.tmp 36) 22 rfl w.heap.size 5 i0 (.int .u8 0) 1 1 Try.underlying22 hi hz0 hz1 hz2 rfl (by decide) _ ds.length (vs ds) rfl (HOWN.out.alloc _) ⟨wr.heap.size, 0, none⟩ 1 1 [.int .u8 (a[m].toNat : Nat)] rfl rfl (one_new _ _ _) (by intro u hu; simp at hu; subst hu; rfl) (by unfold maxLen; omega) (by omega) (by have := HBL.out.size; simp; omega) ?_)
            intro v' w' hown' hgrow _
            obtain ⟨a2, cap2, rfl⟩ := own_shape hown'
            have h2 : Below w.heap.size wr w' := ((Below.refl w.heap.size wr).alloc (by have := HBL.out.size; omega) _).grown hgrow (by have := HBL.out.size; simp; omega) (fun j hj => (HOWN.out.lt j hj).1)
            have hown2 : w'.ownsRow w.heap.size 5 1 (.slice a2 (ds.length + 1) cap2) (ds ++ [cm a[m].toNat b[m].toNat]).length (vs (ds ++ [cm a[m].toNat b[m].toNat])) := by rw [HC.out, vs_snoc, List.length_append]; exact hown'
            have HO2 := Kp.mk hown2; clear hown2
            have HB3 := Kp.mk (HBL.out.trans h2)
            clear hown' hgrow h2
            go_wp2_with fail
            go_roundw
            case rel =>
              first
                | exact ⟨m + 1, ds ++ [cm a[m].toNat b[m].toNat], by omega, by go_num, Kp.mk ⟨by rw [List.length_append, List.length_singleton, HDL.out], HL.out.symm, HO.out.trans HF.out⟩, HB3.out, HO2.out⟩
                | ((repeat apply Exists.intro); exact ⟨⟨m + 1, ds ++ [cm a[m].toNat b[m].toNat], by omega, by go_num, Kp.mk ⟨by rw [List.length_append, List.length_singleton, HDL.out], HL.out.symm, HO.out.trans HF.out⟩, HB3.out, HO2.out⟩, rfl⟩)
            case measure => simp [intOf] <;> omega
          · have e3 : ((b[m].toNat : Int) != (a[m].toNat : Int)) = true := by rw [bne_iff_ne]; omega
            have hno : comOk (fwd a) (fwd b) = false := comOk_bad (HO.out.trans (by unfold fitB cm; simp [ga, gb, gc]))
            have HNO := Kp.mk hno
            clear hno ga gb gc
            go_wp2_with fail
            go_ret2
            exact ⟨ret_str (by unfold comS; rw [HNO.out]; rfl) HNO.out.symm, HBL.out⟩
    · have hms : m = a.size := by omega
      subst hms
      have hyes : comOk (fwd a) (fwd b) = true := by
        have := HV.out.2.2
        rw [fwd_all, ← HAB.out, fwd_all] at this; exact this
      have hds : ds = comL (fwd a) (fwd b) := by
        have := HV.out.2.1
        rw [fwd_all, ← HAB.out, fwd_all] at this; exact this
      have hcv := conv_own hown (by rw [HV.out.1]; exact HN.out)
      obtain ⟨a', cap', rfl⟩ := own_shape hown
      have HY := Kp.mk hyes
      have HD := Kp.mk hds
      have HBL := Kp.mk hbl
      have b1 : ¬ (a.size : Int) < (a.size : Int) := by omega
      clear hyes hds hbl hown HV
      go_wp2_with fail
      go_ret2
      exact ⟨ret_str (by unfold comS; rw [if_pos HY.out, ← HD.out]) HY.out.symm, HBL.out⟩
end Go.Proofs.Ytabhfpfnaaihjaa
