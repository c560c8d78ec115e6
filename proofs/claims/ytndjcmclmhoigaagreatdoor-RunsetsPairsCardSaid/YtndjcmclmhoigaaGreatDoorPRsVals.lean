/-
 DERIVED. What the examples of chapter 10 come to. Written by mkrs6.py.
-/
import Derived.Test.YtndjcmclmhoigaaGreatDoorPC3
import Derived.Test.YtndjcmclmhoigaaGreatDoorPRsSet
import Derived.Test.YtndjcmclmhoigaaGreatDoorPRsOne
namespace Go.Proofs.YtndjcmclmhoigaaGreatDoor
open Go.RowKit
set_option maxRecDepth 100000

theorem lo_d (d g e : Int) : Rn.lo ⟨0, d, g, e⟩ = d := by unfold Rn.lo posE; rw [if_pos rfl]
theorem hi_d (f d e : Int) : Rn.hi ⟨f, d, 0, e⟩ = e := by unfold Rn.hi posE; rw [if_pos rfl]
theorem lo_i (d g e : Int) : Rn.lo ⟨-1, d, g, e⟩ = -18446744073709551616 := rfl
theorem hi_i (f d e : Int) : Rn.hi ⟨f, d, 1, e⟩ = 18446744073709551616 := rfl
theorem memR_none {x : Int} : memR [] x ↔ False := ⟨memR_nil x, False.elim⟩
theorem all_in {l : List Rn} (h : (l.all fun r => decide (-9223372036854775808 ≤ r.d ∧ r.d ≤ 9223372036854775807 ∧ -9223372036854775808 ≤ r.e ∧ r.e ≤ 9223372036854775807)) = true) : InL l := fun r hr => by
 have := of_decide_eq_true (List.all_eq_true.1 h r hr)
 exact ⟨this.1, this.2.1, this.2.2.1, this.2.2.2⟩
def xA1 : List Rn := [⟨0, 5, 0, 9⟩, ⟨0, 1, 0, 2⟩, ⟨0, 3, 0, 3⟩, ⟨0, 8, 0, 12⟩]
theorem inA1 : InL xA1 := all_in (by decide +kernel)
theorem lnA1 : xA1.length ≤ maxLen := by decide +kernel
def xE1 : List Rn := [⟨0, 1, 0, 3⟩, ⟨0, 5, 0, 12⟩]
theorem inE1 : InL xE1 := all_in (by decide +kernel)
theorem lnE1 : xE1.length ≤ maxLen := by decide +kernel
def xA2 : List Rn := [⟨0, 1, 0, 2⟩, ⟨0, 5, 0, 6⟩]
theorem inA2 : InL xA2 := all_in (by decide +kernel)
theorem lnA2 : xA2.length ≤ maxLen := by decide +kernel
def xA3 : List Rn := [⟨0, 3, 0, 3⟩]
theorem inA3 : InL xA3 := all_in (by decide +kernel)
theorem lnA3 : xA3.length ≤ maxLen := by decide +kernel
def xE2 : List Rn := [⟨0, 1, 0, 3⟩, ⟨0, 5, 0, 6⟩]
theorem inE2 : InL xE2 := all_in (by decide +kernel)
theorem lnE2 : xE2.length ≤ maxLen := by decide +kernel
def xA4 : List Rn := [⟨0, 1, 0, 9⟩]
theorem inA4 : InL xA4 := all_in (by decide +kernel)
theorem lnA4 : xA4.length ≤ maxLen := by decide +kernel
def xA5 : List Rn := [⟨0, 3, 0, 4⟩, ⟨0, 6, 0, 6⟩]
theorem inA5 : InL xA5 := all_in (by decide +kernel)
theorem lnA5 : xA5.length ≤ maxLen := by decide +kernel
def xE3 : List Rn := [⟨0, 1, 0, 2⟩, ⟨0, 5, 0, 5⟩, ⟨0, 7, 0, 9⟩]
theorem inE3 : InL xE3 := all_in (by decide +kernel)
theorem lnE3 : xE3.length ≤ maxLen := by decide +kernel
def xC1 : List Rn := [⟨0, 1, 0, 2⟩, ⟨0, 3, 0, 4⟩]
theorem inC1 : InL xC1 := all_in (by decide +kernel)
theorem lnC1 : xC1.length ≤ maxLen := by decide +kernel
def xC2 : List Rn := [⟨0, 5, 0, 6⟩, ⟨0, 1, 0, 2⟩]
theorem inC2 : InL xC2 := all_in (by decide +kernel)
theorem lnC2 : xC2.length ≤ maxLen := by decide +kernel
def xC3 : List Rn := [⟨0, 1, 0, 2⟩, ⟨0, 4, 0, 4⟩]
theorem inC3 : InL xC3 := all_in (by decide +kernel)
theorem lnC3 : xC3.length ≤ maxLen := by decide +kernel
def xLT : List Rn := [⟨0, 1, 0, 5⟩, ⟨0, 9, 1, 0⟩]
theorem inLT : InL xLT := all_in (by decide +kernel)
theorem lnLT : xLT.length ≤ maxLen := by decide +kernel
def xA6 : List Rn := [⟨0, 4, 0, 10⟩]
theorem inA6 : InL xA6 := all_in (by decide +kernel)
theorem lnA6 : xA6.length ≤ maxLen := by decide +kernel
def xE4 : List Rn := [⟨0, 4, 0, 5⟩, ⟨0, 9, 0, 10⟩]
theorem inE4 : InL xE4 := all_in (by decide +kernel)
theorem lnE4 : xE4.length ≤ maxLen := by decide +kernel
def xN1 : List Rn := [⟨-1, 0, 0, 0⟩, ⟨0, 5, 0, 6⟩]
theorem inN1 : InL xN1 := all_in (by decide +kernel)
theorem lnN1 : xN1.length ≤ maxLen := by decide +kernel
def xE5 : List Rn := [⟨0, 1, 0, 4⟩, ⟨0, 7, 1, 0⟩]
theorem inE5 : InL xE5 := all_in (by decide +kernel)
theorem lnE5 : xE5.length ≤ maxLen := by decide +kernel
def xNO : List Rn := []
theorem inNO : InL xNO := all_in (by decide +kernel)
theorem lnNO : xNO.length ≤ maxLen := by decide +kernel
def xA7 : List Rn := [⟨0, 0, 0, 9223372036854775807⟩]
theorem inA7 : InL xA7 := all_in (by decide +kernel)
theorem lnA7 : xA7.length ≤ maxLen := by decide +kernel
def xE7 : List Rn := [⟨-1, 0, 0, (-1)⟩]
theorem inE7 : InL xE7 := all_in (by decide +kernel)
theorem lnE7 : xE7.length ≤ maxLen := by decide +kernel
def xB1 : List Rn := [⟨0, 2, 0, 3⟩]
theorem inB1 : InL xB1 := all_in (by decide +kernel)
theorem lnB1 : xB1.length ≤ maxLen := by decide +kernel
def xB2 : List Rn := [⟨0, 1, 0, 5⟩, ⟨0, 9, 0, 9⟩]
theorem inB2 : InL xB2 := all_in (by decide +kernel)
theorem lnB2 : xB2.length ≤ maxLen := by decide +kernel
def xB3 : List Rn := [⟨0, 1, 0, 3⟩, ⟨0, 7, 0, 7⟩]
theorem inB3 : InL xB3 := all_in (by decide +kernel)
theorem lnB3 : xB3.length ≤ maxLen := by decide +kernel
def xM1 : List Rn := [⟨0, 1, 1, 0⟩]
theorem inM1 : InL xM1 := all_in (by decide +kernel)
theorem lnM1 : xM1.length ≤ maxLen := by decide +kernel
def xP1 : List Rn := [⟨0, 1, 0, 3⟩, ⟨0, 5, 0, 5⟩]
theorem inP1 : InL xP1 := all_in (by decide +kernel)
theorem lnP1 : xP1.length ≤ maxLen := by decide +kernel
theorem v1 : IsRs xE1 (memR xA1) := by
 refine ⟨((chkRs_zero inE1).1 (by decide +kernel)).2, fun x => ?_⟩
 simp only [xE1, xA1, lo_d, hi_d, memR_cons, memR_none, Rn.has, or_false]
 constructor <;> intro h <;> omega
theorem v2 : IsRs xE2 (fun x => memR xA2 x ∨ memR xA3 x) := by
 refine ⟨((chkRs_zero inE2).1 (by decide +kernel)).2, fun x => ?_⟩
 simp only [xE2, xA2, xA3, lo_d, hi_d, memR_cons, memR_none, Rn.has, or_false]
 constructor <;> intro h <;> omega
theorem v3 : IsRs xE3 (fun x => memR xA4 x ∧ leftM xA5 x) := by
 refine ⟨((chkRs_zero inE3).1 (by decide +kernel)).2, fun x => ?_⟩
 simp only [xE3, xA4, xA5, leftM, lo_d, hi_d, memR_cons, memR_none, Rn.has, or_false]
 constructor <;> intro h <;> omega
theorem v4 : IsRs xE4 (fun x => memR xLT x ∧ memR xA6 x) := by
 refine ⟨((chkRs_zero inE4).1 (by decide +kernel)).2, fun x => ?_⟩
 simp only [xE4, xLT, xA6, hi_i, lo_d, hi_d, memR_cons, memR_none, Rn.has, or_false]
 constructor <;> intro h <;> omega
theorem v5 : IsRs xE5 (fun x => memR [wholeR] x ∧ leftM xN1 x) := by
 refine ⟨((chkRs_zero inE5).1 (by decide +kernel)).2, fun x => ?_⟩
 simp only [xE5, xN1, wholeR, leftM, lo_i, hi_i, lo_d, hi_d, memR_cons, memR_none, Rn.has, or_false]
 constructor <;> intro h <;> omega
def xW : List Rn := [wholeR]
theorem inW : InL xW := all_in (by decide +kernel)
theorem lnW : xW.length ≤ maxLen := by decide +kernel
theorem v6 : IsRs xW (fun x => memR [wholeR] x ∧ leftM xNO x) := ⟨((chkRs_zero inW).1 (by decide +kernel)).2, fun x => ⟨fun h => ⟨h, leftM_nil x⟩, fun h => h.1⟩⟩
theorem v7 : IsRs xE7 (fun x => memR [wholeR] x ∧ leftM xA7 x) := by
 refine ⟨((chkRs_zero inE7).1 (by decide +kernel)).2, fun x => ?_⟩
 simp only [xE7, xA7, wholeR, leftM, lo_i, hi_i, lo_d, hi_d, memR_cons, memR_none, Rn.has, or_false]
 constructor <;> intro h <;> omega
theorem vof : ofRs xA1 = 0 := by decide +kernel
theorem vb2 : bothRs xA2 xA3 = 0 := by decide +kernel
theorem vb3 : bothRs xA4 xA5 = 0 := by decide +kernel
theorem vb4 : bothRs xLT xA6 = 0 := by decide +kernel
theorem vc1 : chkRs xC1 = 12 := by decide +kernel
theorem vc2 : chkRs xC2 = 12 := by decide +kernel
theorem vc3 : chkRs xC3 = 0 := by decide +kernel
theorem vc5 : chkRs xN1 = 0 := by decide +kernel
theorem vc6 : chkRs xNO = 0 := by decide +kernel
theorem vc7 : chkRs xA7 = 0 := by decide +kernel
theorem vbi : bothRs xB1 xB2 = 0 := by decide +kernel
theorem vin : inRs xB1 xB2 = true := by decide +kernel
theorem vc8 : chkRs xB3 = 0 := by decide +kernel
theorem vc9 : chkRs xM1 = 0 := by decide +kernel
theorem vcnt : CntR xB3 4 0 := by
 have hf : FinR xB3 := fun r hr => by
  unfold xB3 at hr
  simp only [List.mem_cons, List.not_mem_nil, or_false] at hr
  rcases hr with rfl | rfl <;> exact ⟨rfl, rfl⟩
 have hc : cntS xB3 = 4 := by decide +kernel
 exact ⟨fun h => absurd hf h, fun _ _ => ⟨hc.symm, rfl⟩, fun _ h => absurd (by rw [hc]; decide) h⟩
theorem no_cut : NoCut [] := fun i h => by have := h.1; simp at this
theorem par_13 : ParR [49, 46, 46, 51] ⟨0, 1, 0, 3⟩ 0 := by
 have h := textR_again (r := ⟨0, 1, 0, 3⟩) ⟨by decide, by decide, by decide, by decide⟩ (by decide +kernel)
 rw [show textR ⟨0, 1, 0, 3⟩ = [49, 46, 46, 51] by decide +kernel] at h
 exact h
theorem par_44 : ParR [52, 46, 46, 52] ⟨0, 4, 0, 4⟩ 0 := by
 have h := textR_again (r := ⟨0, 4, 0, 4⟩) ⟨by decide, by decide, by decide, by decide⟩ (by decide +kernel)
 rw [show textR ⟨0, 4, 0, 4⟩ = [52, 46, 46, 52] by decide +kernel] at h
 exact h
theorem vp1 : ParS [49, 46, 46, 51, 44, 53, 46, 46, 53] xP1 0 := by
 have h := textS_again (l := xP1) inP1 (by decide +kernel)
 rw [show textS xP1 = [49, 46, 46, 51, 44, 53, 46, 46, 53] by decide +kernel] at h
 exact h
theorem vp2 : ParS [] [] 5 := by
 refine ⟨fun h => absurd h (by decide), fun _ => ⟨[(zeroR, 5)], ⟨rfl, fun k p x h1 h2 => ?_⟩, ?_⟩⟩
 ·match k, h1, h2 with
  | 0, h1, h2 =>
   have e1 : ([] : List UInt8) = p := by injection h1
   have e2 : (zeroR, (5 : Int)) = x := by injection h2
   subst e1 e2
   exact .inl ⟨no_cut, rfl, rfl⟩
  | k + 1, h1, h2 => simp at h2
 ·have h5 : ∃ x, x ∈ [(zeroR, (5 : Int))] ∧ x.2 = 5 := ⟨_, List.mem_cons_self, rfl⟩
  exact ⟨fun _ => ⟨rfl, rfl⟩, fun h => absurd rfl (h _ List.mem_cons_self), fun h => absurd rfl (h _ List.mem_cons_self), fun h => absurd rfl (h _ List.mem_cons_self)⟩
theorem vp3 : ParS [49, 46, 46, 51, 44] [] 5 := by
 refine ⟨fun h => absurd h (by decide), fun _ => ⟨[(⟨0, 1, 0, 3⟩, 0), (zeroR, 5)], ⟨rfl, fun k p x h1 h2 => ?_⟩, ?_⟩⟩
 ·match k, h1, h2 with
  | 0, h1, h2 =>
   have e1 : ([49, 46, 46, 51] : List UInt8) = p := by injection h1
   have e2 : ((⟨0, 1, 0, 3⟩, (0 : Int)) : Rn × Int) = x := by injection h2
   subst e1 e2
   exact par_13
  | 1, h1, h2 =>
   have e1 : ([] : List UInt8) = p := by injection h1
   have e2 : (zeroR, (5 : Int)) = x := by injection h2
   subst e1 e2
   exact .inl ⟨no_cut, rfl, rfl⟩
  | k + 2, h1, h2 => simp at h2
 ·have hm : (zeroR, (5 : Int)) ∈ [((⟨0, 1, 0, 3⟩, 0) : Rn × Int), (zeroR, 5)] := by simp
  exact ⟨fun _ => ⟨rfl, rfl⟩, fun h => absurd rfl (h _ hm), fun h => absurd rfl (h _ hm), fun h => absurd rfl (h _ hm)⟩
theorem vp4 : ParS [49, 46, 46, 51, 44, 52, 46, 46, 52] [] 12 := by
 refine ⟨fun h => absurd h (by decide), fun _ => ⟨[(⟨0, 1, 0, 3⟩, 0), (⟨0, 4, 0, 4⟩, 0)], ⟨rfl, fun k p x h1 h2 => ?_⟩, ?_⟩⟩
 ·match k, h1, h2 with
  | 0, h1, h2 =>
   have e1 : ([49, 46, 46, 51] : List UInt8) = p := by injection h1
   have e2 : ((⟨0, 1, 0, 3⟩, (0 : Int)) : Rn × Int) = x := by injection h2
   subst e1 e2
   exact par_13
  | 1, h1, h2 =>
   have e1 : ([52, 46, 46, 52] : List UInt8) = p := by injection h1
   have e2 : ((⟨0, 4, 0, 4⟩, (0 : Int)) : Rn × Int) = x := by injection h2
   subst e1 e2
   exact par_44
  | k + 2, h1, h2 => simp at h2
 ·have hk : chkRs (runsOf [((⟨0, 1, 0, 3⟩, 0) : Rn × Int), (⟨0, 4, 0, 4⟩, 0)]) = 12 := by decide +kernel
  refine ⟨fun ⟨x, hx, e⟩ => ?_, fun _ h => absurd rfl h, fun _ _ _ => ⟨rfl, hk.symm⟩, fun _ _ h => absurd h (by rw [hk]; decide)⟩
  simp only [List.mem_cons, List.not_mem_nil, or_false] at hx
  rcases hx with rfl | rfl <;> exact absurd e (by decide)
theorem two_lit (l : List Rn) (arr : Array Value) (t : TypeId) (u : World) (ha : arr = (vL l).toArray) : Lr u (some ⟨u.heap.size, 0, none⟩) l (u.alloc (.cells arr t)) := by
 subst ha
 refine ⟨(Below.refl _ _).alloc (Nat.le_refl _) _, fun p r hp => ?_⟩
 have key : ∀ j : Nat, j < 4 → (u.alloc (.cells (vL l).toArray t)).cell? ⟨u.heap.size, p * 4 + j, none⟩ = (cellsR r)[j]? := fun j hj => by
  rw [World.cell?_alloc_new]
  simp only [List.getElem?_toArray]
  rw [vL_at hp hj]
 refine ⟨u.heap.size, 0, rfl, by simp, ?_, ?_, ?_, ?_⟩
 ·rw [show 0 + p * 4 = p * 4 + 0 by omega]; exact key 0 (by omega)
 ·rw [show 0 + p * 4 + 1 = p * 4 + 1 by omega]; exact key 1 (by omega)
 ·rw [show 0 + p * 4 + 2 = p * 4 + 2 by omega]; exact key 2 (by omega)
 ·rw [show 0 + p * 4 + 3 = p * 4 + 3 by omega]; exact key 3 (by omega)
/-- set of numbers that are written out -/
theorem set_lit (zs : List Int) (l : List Rn) (n cap k : Nat) (arr : Array Value) (t : TypeId) (u : World) (ha : arr = (zs.map (Value.int .i64)).toArray) (hl : pairs zs = l) (hn : zs.length = n) (hk : zs.length = 2 * k) (h9 : k ≤ 9) :
 Calls Tryz.prog 71 #[.slice (some ⟨u.heap.size, 0, none⟩) n cap] (u.alloc (.cells arr t)) fun x w' => (∃ b p, x = .returned (.slice b l.length p) ∧ Lr u b l w' ∧ l.length ≤ p) ∧ Below u.heap.size u w' := by
 subst ha hl hn
 have hb := (Below.refl u.heap.size u).alloc (Nat.le_refl _) (.cells (zs.map (Value.int .i64)).toArray t)
 have hz : Zs (u.alloc (.cells (zs.map (Value.int .i64)).toArray t)) u.heap.size zs (u.alloc (.cells (zs.map (Value.int .i64)).toArray t)) :=
  ⟨Below.refl _ _, by simp, (zs_new zs t (Below.refl u.heap.size u)).cell⟩
 refine (set_isc hk h9 hz).mono ?_
 rintro x w' ⟨⟨⟨b, p, h1, _, h3⟩, h4⟩, b', p', h5, h6⟩
 rw [h1] at h5
 injection h5 with h5
 injection h5 with _ _ h7
 exact ⟨⟨b, p, h1, ⟨hb.trans (h3.below.mono hb.size), h3.at4⟩, by omega⟩, hb.trans (h4.mono hb.size)⟩
end Go.Proofs.YtndjcmclmhoigaaGreatDoor
