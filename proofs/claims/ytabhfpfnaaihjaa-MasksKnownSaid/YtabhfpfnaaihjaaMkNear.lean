/-
  DERIVED. CONTRACT of package masks: nearest, upwards.
-/
import Derived.Test.YtabhfpfnaaihjaaMkEnds
import Derived.Deep.RegionLaw
import Derived.Deep.WholeRow
import Derived.WalkMore
import Derived.Deep.Cut
namespace Go.Proofs.Ytabhfpfnaaihjaa
open Go.RowKit

theorem wpList_store_new {P : Program} {ops : Array Oper} {rest : List Oper} {o : Oper} {a : Act} {w : World} {Q : Exit → Act → World → Prop} (hgd : o.guard = none) (ty : TypeId) (x y : Operand) (ho : o.op = .store ty x y)
    (cells : Array Value) (hx : a.eval x = .pointer (some ⟨w.heap.size, 0, none⟩)) (hy : a.eval y = .agg cells)
    (t : TypeId) (old : Array Value) (hi : (P.info? ty).map (·.size) = some cells.size)
    (hold : old.size = cells.size) (h1 : cells.all (·.oneCell') = true)
    (h : wpList P ops Q rest (a.put o.dst undef) (w.alloc (.cells cells t))) : wpList P ops Q (o :: rest) a (w.alloc (.cells old t)) :=
  wpList_store_row' hgd ty x y ho w.heap.size cells hx hy t old (heap_alloc_last w _) hi hold h1 (by rw [World.setRow_alloc_new]; exact h)
theorem has_digits {s : ByteArray} {n : Nat} (h : hasN (codes s) n = true) {j : Nat} (hj : j < s.size) : fl (cd s j) (dgF n s.size 0 j) = dgF n s.size 0 j := by
  have h2 := has_pre s.size (Nat.le_refl _) n (by rw [pre_all]; exact h) (j + 1) (by omega)
  have h3 := has_digit hj h2
  rw [dg_at hj]; exact h3
theorem digits_has {s : ByteArray} {n : Nat} (hn : n < 10 ^ s.size) (h : ∀ j, j < s.size → fl (cd s j) (dgF n s.size 0 j) = dgF n s.size 0 j) : hasN (codes s) n = true := by
  have := has_vl (f := dgF n s.size 0) (fun j => dgF_le j) s.size (Nat.le_refl _) h
  rw [pre_all, vlF_dg hn s.size (Nat.le_refl _), Nat.sub_self, Nat.pow_zero, Nat.div_one] at this
  exact this
def clL (f : Nat → Nat) : List Value := (List.range 18).map fun k => Value.int .i64 (f k : Int)
theorem clL_len (f : Nat → Nat) : (clL f).length = 18 := rfl
theorem clL_get {f : Nat → Nat} {k : Nat} (h : k < 18) : (clL f)[k]? = some (.int .i64 (f k : Int)) := by
  unfold clL
  rw [List.getElem?_map, List.getElem?_range h]; rfl
theorem clL_splice {f h : Nat → Nat} {l : Nat} (hl : l ≤ 18) : (splice (clL f) l ((clL h).drop l)).toArray = cl (fun k => if k < l then f k else h k) := by
  have e : splice (clL f) l ((clL h).drop l) = clL (fun k => if k < l then f k else h k) := by
    apply List.ext_getElem?
    intro k
    unfold splice
    have hlen : ((clL f).take l).length = l := by rw [List.length_take, clL_len]; omega
    have hlen2 : ((clL h).drop l).length = 18 - l := by rw [List.length_drop, clL_len]
    by_cases hk : k < l
    · rw [List.getElem?_append_left (by omega), List.getElem?_take, if_pos hk, clL_get (by omega), clL_get (by omega), if_pos hk]
    · rw [List.getElem?_append_right (by omega), hlen]
      by_cases hk2 : k < 18
      · rw [List.getElem?_append_left (by omega), List.getElem?_drop, show l + (k - l) = k by omega, clL_get hk2, clL_get hk2, if_neg hk]
      · rw [List.getElem?_append_right (by omega), List.getElem?_eq_none (by rw [List.length_drop, clL_len]; omega), List.getElem?_eq_none (by rw [clL_len]; omega)]
  rw [e]; rfl
theorem upF_cl {s : ByteArray} {n j D l : Nat} (hl : j + 1 = l) : cl (fun k => if k < l then (if k = j then D else dgF n s.size 0 k) else flF s 0 s.size k) = cl (upF s n j D) := by
  apply cl_congr
  intro k hk
  unfold upF flF
  by_cases h1 : k < j
  · rw [if_pos (by omega), if_neg (by omega), if_pos h1]
  · by_cases h2 : k = j
    · rw [if_pos (by omega), if_pos h2, if_neg h1, if_pos h2]
    · rw [if_neg (by omega), if_neg h1, if_neg h2]
set_option maxRecDepth 100000 in
set_option maxHeartbeats 2000000 in
theorem nearUp_is {s : ByteArray} {n u : Nat} (w : World) (hs : Mk s) (hn : n < 10 ^ s.size) (hex : ∃ x, hasN (codes s) x = true ∧ n ≤ x) (hu : UpR s n u) :
    Calls Try.prog 39 #[.string s, .int .i64 n, .int .i64 1] w fun e w' => e = .returned (.int .i64 u) ∧ Below w.heap.size w w' := by
  have hm := hs.most
  have h1 := hs.one
  have hn18 : n < 1000000000000000000 := by have := ten_le hm; omega
  have r1 := Kp.mk (fun w => digitsOf_is (n := n) w h1 hm hn18)
  have r2 := Kp.mk (fun w => clash_is (f := dgF n s.size 0) w hs)
  have HU := Kp.mk hu
  have HX := Kp.mk (And.intro hs (And.intro hn hex))
  clear hu hs hn hex h1 hn18
  go_enter Try.func39, Try.ntmps39
  go_wp2_with fail
  go_step3
  go_wp2_with fail
  refine (r1.out _).mono ?_
  rintro e w1 ⟨rfl, hbl⟩
  have HB := Kp.mk hbl
  clear hbl
  go_wp2_with (first
    | refine wpList_load_row rfl 58 (.tmp 7) rfl w1.heap.size rfl 58 (cl (dgF n s.size 0)) (0, 0) _ (heap_alloc_last _ _) Try.underlying58 rfl infoDg ?_
    | refine wpList_store_new rfl 58 (.tmp 7) (.tmp 14) rfl (cl (dgF n s.size 0)) rfl rfl 58 _ infoDg rfl (cl_one _) ?_)
  refine (r2.out _).mono ?_
  rintro e w2 ⟨⟨c, rfl, hc, hag, hdis⟩, hbl⟩
  have hg2 : Kp (w2.heap[w1.heap.size]? = some (.cells (cl (dgF n s.size 0)) 58)) := Kp.mk ((hbl.block _ (by simp)).trans (heap_alloc_last _ _))
  have HB2 : Kp (Below w.heap.size w w2) := Kp.mk ((HB.out.alloc HB.out.size _).trans (hbl.mono (by have := HB.out.size; simp; omega)))
  have hgW : Kp (w.heap.size ≤ w1.heap.size) := Kp.mk HB.out.size
  clear hbl HB r1 r2
  generalize w1.heap.size = gb at *
  clear w1
  by_cases hcs : c = s.size
  · have t1 : ((c : Int) == (s.size : Int)) = true := by rw [beq_iff_eq]; omega
    have hself : u = n := HU.out.uniq (up_self (digits_has HX.out.2.1 fun j hj => hag j (by omega)))
    have HS := Kp.mk hself
    clear hag hdis hcs hself
    go_wp2_with fail
    rw [Exit.noGoto_ret]
    go_ret
    exact ⟨by rw [HS.out]; rfl, HB2.out⟩
  · have t1 : ((c : Int) == (s.size : Int)) = false := by rw [beq_eq_false_iff_ne]; omega
    have hcl : c < s.size := by omega
    have hno : ¬ hasN (codes s) n = true := fun h => hdis hcl (has_digits h hcl)
    have hst := up_start hcl (hdis hcl)
    have HN := Kp.mk hno
    have HA := Kp.mk hag
    clear hno hdis hcs hag
    go_wp2_with fail
    go_step3
    go_wp2_with fail
    go_loop [8] (fun i => ∃ k : Nat, k ≤ c + 1 ∧ i = .int .i64 ((k : Int) - 1) ∧ Kp (UpAt s n k)) (fun i => (intOf i + 1).toNat)
    case atStart => exact ⟨c + 1, by omega, by go_num, Kp.mk hst⟩
    case round =>
      obtain ⟨k, hk, rfl, HK⟩ := hrel
      by_cases h0 : 0 < k
      · obtain ⟨j, rfl⟩ : ∃ j, k = j + 1 := ⟨k - 1, by omega⟩
        have ej : ((j + 1 : Nat) : Int) - 1 = (j : Int) := by omega
        rw [ej]
        have hget : w2.cell? ⟨gb, j, none⟩ = some (.int .i64 (dgF n s.size 0 j)) := by rw [cell_of_row _ _ _ _ _ _ hg2.out]; exact cl_get (by omega)
        have hfro : w2.frozen? ⟨gb, j, none⟩ = false := frozen_of_row _ _ _ _ _ hg2.out
        have hd9 := dgF_le (n := n) (L := s.size) j
        obtain ⟨d, hd⟩ : ∃ d, dgF n s.size 0 j = d := ⟨_, rfl⟩
        rw [hd] at hget hd9
        have HD := Kp.mk hd
        clear hd
        have hjs : j < s.size := by omega
        have hcode := HX.out.1.code hjs
        have e8 : IntKind.i64.wrap ((d : Int) + 1) = (d : Int) + 1 := IntWalk.i64_in _ (by omega)
        go_wp2_with fail
        go_hide hQ
        go_loop [9] (fun x => ∃ D : Nat, D ≤ 10 ∧ d < D ∧ x = .int .i64 D ∧ Kp (∀ y, d < y → y < D → ¬ fl (cd s j) y = y)) (fun x => (10 - intOf x).toNat)
        case atStart => exact ⟨d + 1, by omega, by omega, by go_num, Kp.mk (fun y _ _ => by omega)⟩
        case round =>
          obtain ⟨D, hD, hdD, rfl, HY⟩ := hrel
          by_cases hD9 : D ≤ 9
          · have hD9' : (D : Int) ≤ 9 := by omega
            have e21 : IntKind.i32.wrap (s[j].toNat : Int) = (s[j].toNat : Int) := IntWalk.i32_in _ (by omega)
            have e9 : IntKind.i64.wrap ((D : Int) + 1) = (D : Int) + 1 := IntWalk.i64_in _ (by omega)
            obtain ⟨b, hb⟩ : ∃ b, (fl s[j].toNat D == D) = b := ⟨_, rfl⟩
            have HC := Kp.mk (fun w => allows_is (g := D) w hcode hb)
            rw [← cd_at hjs] at hb
            have HBt := Kp.mk hb
            clear hb hD9
            go_wp2_with fail
            refine (HC.out _).mono ?_
            rintro e w' ⟨rfl, rfl⟩
            cases b
            · go_wp2_with fail
              have hbt := HBt.out
              rw [beq_eq_false_iff_ne] at hbt
              have HY2 : Kp (∀ y, d < y → y < D + 1 → ¬ fl (cd s j) y = y) := Kp.mk (fun y h1 h2 => by
                by_cases e : y = D
                · rw [e]; exact hbt
                · exact HY.out y h1 (by omega))
              go_round
              case rel => exact ⟨D + 1, by omega, by omega, by go_num, HY2⟩
              case measure => simp [intOf]; omega
            · go_wp2_with fail
              subst hQ
              go_wp2_with fail
              have hbt := HBt.out
              rw [beq_iff_eq] at hbt
              have hup := up_found HX.out.1 (n := n) HX.out.2.1 hjs HK.out (fun i hi => HA.out i (by omega)) (show D ≤ 9 by omega) (by rw [HD.out]; exact hdD) hbt (fun y h1 h2 => HY.out y (by rw [← HD.out]; exact h1) h2) HN.out
              have HUP := Kp.mk (hup.uniq HU.out)
              have h18 : j + 1 ≤ 18 := by omega
              obtain ⟨l, hl⟩ : ∃ l, j + 1 = l := ⟨_, rfl⟩
              have e57 : IntKind.i64.wrap ((j : Int) + 1) = (l : Int) := by rw [show (j : Int) + 1 = (l : Int) by omega]; exact IntWalk.i64_in _ (by omega)
              have hcl3 : (w2.setCell ⟨gb, j, none⟩ (.int .i64 (D : Int))).heap[gb]? = some (.cells (cl (fun k => if k = j then D else dgF n s.size 0 k)) 58) := by rw [heap_setCell_same _ _ _ _ _ _ hg2.out, cl_set (by omega)]
              have HB3 : Kp (Below w.heap.size w (w2.setCell ⟨gb, j, none⟩ (.int .i64 (D : Int)))) := Kp.mk (HB2.out.setCell hgW.out _)
              clear hbt hup hget hfro hst
              generalize w2.setCell ⟨gb, j, none⟩ (.int .i64 (D : Int)) = w3 at *
              have hlt3 : gb < w3.heap.size := (Array.getElem?_eq_some_iff.1 hcl3).1
              refine (filled_is (g := 0) w3 HX.out.1).mono ?_
              rintro e w4 ⟨rfl, hbl⟩
              have HG4 : Kp (w4.heap[gb]? = some (.cells (cl (fun k => if k = j then D else dgF n s.size 0 k)) 58)) := Kp.mk ((hbl.block _ hlt3).trans hcl3)
              have HL4 : Kp (gb < w4.heap.size) := Kp.mk (Nat.lt_of_lt_of_le hlt3 hbl.size)
              have HB4 : Kp (Below w.heap.size w w4) := Kp.mk (HB3.out.trans (hbl.mono HB3.out.size))
              clear hbl hlt3 hcl3 HB3 HB2 hg2
              go_upto_region 15 with (refine wpList_store_new rfl 58 (.tmp 10) (.tmp 51) rfl (cl (flF s 0 s.size)) rfl rfl 58 _ infoDg rfl (cl_one _) ?_)
              obtain ⟨q, hq⟩ : ∃ q, 18 - l = q := ⟨_, rfl⟩
              obtain ⟨dp, hdp⟩ : ∃ dp, some (if 18 = l then (⟨gb, 0, none⟩ : Addr) else ⟨gb, l, none⟩) = dp := ⟨_, rfl⟩
              obtain ⟨sp, hsp⟩ : ∃ sp, some (if 18 = l then (⟨w4.heap.size, 0, none⟩ : Addr) else ⟨w4.heap.size, l, none⟩) = sp := ⟨_, rfl⟩
              have hs1 : ∀ w, (Instr.sliceAt 58 (.pointer (some ⟨gb, 0, none⟩)) (some (.int .i64 (l : Int))) none none).run Try.prog w = .ok (.slice dp q q) w := fun w => by rw [← hq, ← hdp]; exact slice_l gb w (by omega)
              have hs2 : ∀ w, (Instr.sliceAt 58 (.pointer (some ⟨w4.heap.size, 0, none⟩)) (some (.int .i64 (l : Int))) none none).run Try.prog w = .ok (.slice sp q q) w := fun w => by rw [← hq, ← hsp]; exact slice_l _ w (by omega)
              have hpos : 0 < ((clL (flF s 0 s.size)).drop l).length → dp = some ⟨gb, l, none⟩ ∧ ∃ ad, sp = some ad ∧ ∀ i v, ((clL (flF s 0 s.size)).drop l)[i]? = some v → (w4.alloc (.cells (cl (flF s 0 s.size)) 58)).cell? (ad.add i) = some v := fun h => by
                rw [List.length_drop, clL_len] at h
                refine ⟨by rw [← hdp, if_neg (by omega)], ⟨w4.heap.size, l, none⟩, by rw [← hsp, if_neg (by omega)], fun i v hv => ?_⟩
                rw [show (⟨w4.heap.size, l, none⟩ : Addr).add i = ⟨w4.heap.size, l + i, none⟩ by unfold Addr.add; split <;> simp_all, cell_of_row _ _ _ _ _ _ (heap_alloc_last _ _)]
                rw [List.getElem?_drop] at hv
                unfold cl
                rw [List.getElem?_toArray]
                exact hv
              have hnn : ((clL (flF s 0 s.size)).drop l).length = Nat.min q q := by rw [List.length_drop, clL_len, ← hq]; exact (Nat.min_self _).symm
              have hfit : l + ((clL (flF s 0 s.size)).drop l).length ≤ (clL (fun k => if k = j then D else dgF n s.size 0 k)).length := by rw [List.length_drop, clL_len, clL_len]; omega
              have hone : ∀ v ∈ (clL (flF s 0 s.size)).drop l, v.oneCell' = true := fun v hv => by
                have := List.mem_of_mem_drop hv
                unfold clL at this
                obtain ⟨k, _, rfl⟩ := List.mem_map.1 this
                rfl
              have HG5 : Kp ((w4.alloc (.cells (cl (flF s 0 s.size)) 58)).heap[gb]? = some (.cells (clL (fun k => if k = j then D else dgF n s.size 0 k)).toArray 58)) := Kp.mk ((Below.heap_alloc _ _ _ HL4.out).trans HG4.out)
              have HB5 : Kp (Below w.heap.size w (w4.alloc (.cells (cl (flF s 0 s.size)) 58))) := Kp.mk (HB4.out.alloc (by have := HL4.out; have := hgW.out; omega) _)
              have HP := Kp.mk (And.intro hpos (And.intro hnn (And.intro hfit hone)))
              have HLQ := Kp.mk (And.intro hl (And.intro hq (And.intro hdp hsp)))
              clear hpos hnn hfit hone hl hq hdp hsp
              go_region_law (
                refine step_copy_splice rfl (.tmp 58) (.tmp 61) 65 65 rfl 2 Try.underlying65 infoE dp sp q q q q (by simp [Act.eval, Act.put]) (by simp [Act.eval, Act.put]) gb l (clL (fun k => if k = j then D else dgF n s.size 0 k)) 58 HG5.out ((clL (flF s 0 s.size)).drop l) HP.out.2.1 HP.out.1 HP.out.2.2.1 HP.out.2.2.2 w.heap.size w HB5.out.drew hgW.out ?_
                intro w5 hg5 hb5
                have HG6 : Kp (w5.heap[gb]? = some (.cells (cl (upF s n j D)) 58)) := Kp.mk (by rw [show w5.heap[gb]? = _ from hg5, clL_splice (by have := HLQ.out.1; omega), upF_cl HLQ.out.1])
                have HB6 := Kp.mk hb5
                clear hg5 hb5)
              go_wp2_with (refine wpList_load_row rfl 58 (.tmp 7) rfl gb rfl 58 (cl (upF s n j D)) (0, 0) _ HG6.out Try.underlying58 rfl infoDg ?_)
              refine (number_is w5 hm (fun k => upF_le HX.out.1 (by omega) k) HUP.out).mono ?_
              rintro e w6 ⟨rfl, hb6⟩
              have HB7 := Kp.mk (HB6.out.trans (hb6.mono HB6.out.size))
              clear hb6
              go_wp2_with fail
              rw [Exit.noGoto_ret]
              go_ret
              exact ⟨rfl, HB7.out⟩
          · obtain rfl : D = 10 := by omega
            have HK2 := Kp.mk (up_step hjs HK.out (fun y h1 h2 => HY.out y (by rw [← HD.out]; exact h1) (by omega)))
            go_wp2_with fail
            subst hQ
            go_wp2_with fail
            go_round
            case rel => exact ⟨j, by omega, by go_num, HK2⟩
            case measure => simp [intOf]
      · obtain rfl : k = 0 := by omega
        exfalso
        obtain ⟨x, hx, hnx⟩ := HX.out.2.2
        have hne : ¬ n = x := fun e => HN.out (by rw [e]; exact hx)
        exact up_zero HK.out hx (by omega)
end Go.Proofs.Ytabhfpfnaaihjaa
