/-
 DERIVED. TEXTS OF RUN SETS as lists of bytes. (Strings longer than those of Bs.)
 DERIVED. CONTRACT of the reference of layer 10 (runsets): Text.
 DERIVED. WHAT A TEXT OF RUN SETS IS READ AS: its parts between commas, each read as a run; the first error. And back.
 DERIVED. Bytes and pieces of strings, as facts for every world.
-/
import Derived.Test.YtndjcmclmhoigaaGreatDoorPA9
import Derived.Test.YtndjcmclmhoigaaGreatDoorPA1
import Derived.Test.YtndjcmclmhoigaaGreatDoorPRsRef
import Derived.Test.YtndjcmclmhoigaaGreatDoorPA6
import Derived.Laws.Strings
namespace Go.Proofs.YtndjcmclmhoigaaGreatDoor
open Go.RowKit
set_option maxRecDepth 100000

/-- the texts of runs, with commas between them -/
def txt : List Rn → List UInt8
 | [] => []
 | r :: t => textR r ++ (match t with | [] => [] | _ :: _ => 44 :: txt t)
def noneL : List UInt8 := [110, 111, 110, 101]
def textS (l : List Rn) : List UInt8 := match l with | [] => noneL | _ :: _ => txt l
theorem txt_cons2 (r s : Rn) (t : List Rn) : txt (r :: s :: t) = textR r ++ 44 :: txt (s :: t) := rfl
theorem txt_one (r : Rn) : txt [r] = textR r := by show textR r ++ [] = _; rw [List.append_nil]
theorem txt_len : ∀ {l : List Rn}, (∀ r, r ∈ l → r.In) → (txt l).length ≤ l.length * 123
 | [], _ => by show 0 ≤ _; omega
 | [r], h => by rw [txt_one]; have := textR_len (h r (by simp)); simp; omega
 | r :: s :: t, h => by
  rw [txt_cons2]
  have h1 := textR_len (h r (by simp))
  have h2 := txt_len (l := s :: t) (fun q hq => h q (List.mem_cons.2 (.inr hq)))
  simp only [List.length_append, List.length_cons] at h2 ⊢
  omega
end Go.Proofs.YtndjcmclmhoigaaGreatDoor
namespace Go.Proofs.YtndjcmclmhoigaaGreatDoor
open Go.RowKit
set_option maxRecDepth 100000

variable {w W W' : World} {a : Option Addr} {l : List Rn}
end Go.Proofs.YtndjcmclmhoigaaGreatDoor
namespace Go.Proofs.YtndjcmclmhoigaaGreatDoor
open Go.RowKit
set_option maxRecDepth 100000

/-- the parts between commas -/
def cut44 : List UInt8 → List (List UInt8)
 | [] => [[]]
 | c :: t => if c = 44 then [] :: cut44 t else (c :: (cut44 t).headD []) :: (cut44 t).tail
theorem cut44_ne (l : List UInt8) : cut44 l ≠ [] := by
 cases l with
 | nil => simp [cut44]
 | cons c t => unfold cut44; split <;> simp
theorem cut44_no : ∀ {a : List UInt8}, (44 : UInt8) ∉ a → cut44 a = [a]
 | [], _ => rfl
 | c :: t, h => by
  have hc : ¬ c = 44 := fun e => h (by rw [e]; simp)
  have ht : (44 : UInt8) ∉ t := fun e => h (List.mem_cons.2 (.inr e))
  unfold cut44
  rw [if_neg hc, cut44_no ht]
  rfl
theorem cut44_at : ∀ {a : List UInt8} {b : List UInt8}, (44 : UInt8) ∉ a → cut44 (a ++ 44 :: b) = a :: cut44 b
 | [], b, _ => by show cut44 (44 :: b) = _; conv => lhs; unfold cut44; rw [if_pos rfl]
 | c :: t, b, h => by
  have hc : ¬ c = 44 := fun e => h (by rw [e]; simp)
  have ht : (44 : UInt8) ∉ t := fun e => h (List.mem_cons.2 (.inr e))
  show cut44 (c :: (t ++ 44 :: b)) = _
  conv => lhs; unfold cut44
  rw [if_neg hc, cut44_at ht]
  rfl
/-- the first error -/
def firstBad : List (Rn × Int) → Int
 | [] => 0
 | x :: t => if x.2 = 0 then firstBad t else x.2
theorem firstBad_add (l : List (Rn × Int)) (x : Rn × Int) : firstBad (l ++ [x]) = if firstBad l = 0 then x.2 else firstBad l := by
 induction l with
 | nil =>
  show (if x.2 = 0 then (0 : Int) else x.2) = if (0 : Int) = 0 then x.2 else 0
  rw [if_pos rfl]
  split
  ·rename_i h; exact h.symm
  ·rfl
 | cons a t ih =>
  show (if a.2 = 0 then firstBad (t ++ [x]) else a.2) = if (if a.2 = 0 then firstBad t else a.2) = 0 then x.2 else (if a.2 = 0 then firstBad t else a.2)
  by_cases h : a.2 = 0
  ·rw [if_pos h, if_pos h, ih]
  ·rw [if_neg h, if_neg h, if_neg h]
/-- each part is read as a run -/
structure Rds (ps : List (List UInt8)) (xs : List (Rn × Int)) : Prop where
 len : ps.length = xs.length
 read : ∀ (k : Nat) (p : List UInt8) (x : Rn × Int), ps[k]? = some p → xs[k]? = some x → ParR p x.1 x.2
def runsOf (xs : List (Rn × Int)) : List Rn := xs.map (·.1)
/-- what comes of the parts -/
structure ParX (xs : List (Rn × Int)) (m : List Rn) (c : Int) : Prop where
 bad : (∃ x, x ∈ xs ∧ x.2 = 5) → m = [] ∧ c = 5
 worst : (∀ x, x ∈ xs → ¬ x.2 = 5) → ¬ firstBad xs = 0 → m = [] ∧ c = firstBad xs
 chk : (∀ x, x ∈ xs → ¬ x.2 = 5) → firstBad xs = 0 → ¬ chkRs (runsOf xs) = 0 → m = [] ∧ c = chkRs (runsOf xs)
 ok : (∀ x, x ∈ xs → ¬ x.2 = 5) → firstBad xs = 0 → chkRs (runsOf xs) = 0 → m = runsOf xs ∧ c = 0
/-- what a text is read as: the run set, the error -/
structure ParS (l : List UInt8) (m : List Rn) (c : Int) : Prop where
 non : l = noneL → m = [] ∧ c = 0
 som : ¬ l = noneL → ∃ xs, Rds (cut44 l) xs ∧ ParX xs m c
/-- no text of a run has a comma -/
theorem form_comma {l : List UInt8} (h : Form l) : (44 : UInt8) ∉ l := by
 rcases h with rfl | ⟨c, r, h | h, _, hd⟩
 ·decide
 ·rw [h]; intro hm; have := hd 44 hm; revert this; unfold dig; decide
 ·rw [h]
  intro hm
  rcases List.mem_cons.1 hm with e | hm
  ·revert e; decide
  ·have := hd 44 hm; revert this; unfold dig; decide
theorem textE_comma (f d : Int) : (44 : UInt8) ∉ textE f d := by
 unfold textE
 split
 ·decide
 ·split
  ·decide
  ·exact form_comma (R1.itoa_form d).1
theorem textR_comma (r : Rn) : (44 : UInt8) ∉ textR r := by
 unfold textR
 intro h
 rcases List.mem_append.1 h with h | h
 ·rcases List.mem_append.1 h with h | h
  ·exact textE_comma _ _ h
  ·revert h; decide
 ·exact textE_comma _ _ h
theorem textR_point (r : Rn) : (46 : UInt8) ∈ textR r := by unfold textR; simp
theorem cut_txt : ∀ {l : List Rn}, l ≠ [] → cut44 (txt l) = l.map textR
 | [], h => absurd rfl h
 | [r], _ => by rw [txt_one, cut44_no (textR_comma r)]; rfl
 | r :: s :: t, _ => by rw [txt_cons2, cut44_at (textR_comma r), cut_txt (l := s :: t) (by simp)]; rfl
theorem textS_again {l : List Rn} (hin : ∀ r, r ∈ l → r.In) (hc : chkRs l = 0) : ParS (textS l) l 0 := by
 cases l with
 | nil => exact ⟨fun _ => ⟨rfl, rfl⟩, fun h => absurd rfl h⟩
 | cons a t =>
  have hz := (chkRs_zero hin).1 hc
  have hp : (46 : UInt8) ∈ txt (a :: t) := by
   have := textR_point a
   unfold txt
   exact List.mem_append.2 (.inl this)
  refine ⟨fun h => ?_, fun _ => ⟨(a :: t).map fun r => (r, 0), ⟨?_, ?_⟩, ?_⟩⟩
  ·have h : txt (a :: t) = noneL := h
   rw [h] at hp
   exact absurd hp (by decide)
  ·show (cut44 (txt (a :: t))).length = _
   rw [cut_txt (by simp), List.length_map, List.length_map]
  ·intro k p x h1 h2
   have h1 : (cut44 (txt (a :: t)))[k]? = some p := h1
   rw [cut_txt (by simp), List.getElem?_map] at h1
   rw [List.getElem?_map] at h2
   cases hr : (a :: t)[k]? with
   | none => rw [hr] at h1; simp at h1
   | some r =>
    rw [hr] at h1 h2
    simp at h1 h2
    subst h1 h2
    exact textR_again (hin r (List.mem_of_getElem? hr)) ((chkR_zero (hin r (List.mem_of_getElem? hr))).2 (hz.2.ok r (List.mem_of_getElem? hr)))
  ·have hr : ∀ l : List Rn, runsOf (l.map fun r => (r, 0)) = l := fun l => by unfold runsOf; rw [List.map_map]; exact List.map_id' l
   have hb : ∀ l : List Rn, firstBad (l.map fun r => (r, 0)) = 0 := fun l => by
    induction l with
    | nil => rfl
    | cons b u ih => show (if (0 : Int) = 0 then firstBad (u.map fun r => (r, 0)) else 0) = 0; rw [if_pos rfl, ih]
   have h5 : ∀ x, x ∈ (a :: t).map (fun r => ((r, 0) : Rn × Int)) → ¬ x.2 = 5 := fun x hx => by
    obtain ⟨r, _, rfl⟩ := List.mem_map.1 hx
    show ¬ (0 : Int) = 5
    decide
   refine ⟨fun ⟨x, hx, e⟩ => absurd e (h5 x hx), fun _ h => absurd (hb _) h, fun _ _ h => absurd (by rw [hr]; exact hc) h, fun _ _ _ => ⟨(hr _).symm, rfl⟩⟩
theorem ParR.inR {l : List UInt8} {r : Rn} {c : Int} (h : ParR l r c) : r.In := by
 have hz : zeroR.In := { d0 := by decide, d1 := by decide, e0 := by decide, e1 := by decide }
 rcases h with ⟨_, rfl, _⟩ | ⟨j, f, d, p, g, e, q, _, h1, h2, ⟨_, rfl, _⟩ | ⟨_, _, rfl, _⟩ | ⟨_, _, rfl, _⟩ | ⟨_, _, rfl, _⟩⟩
 ·exact hz
 ·exact hz
 ·exact hz
 ·exact hz
 ·exact { d0 := h1.range.1, d1 := h1.range.2, e0 := h2.range.1, e1 := h2.range.2 }
theorem cut44_len : ∀ l : List UInt8, (cut44 l).length ≤ l.length + 1
 | [] => by show 1 ≤ _; omega
 | c :: t => by
  have := cut44_len t
  unfold cut44
  split
  ·rw [List.length_cons, List.length_cons]; omega
  ·rw [List.length_cons, List.length_cons, List.length_tail]; omega
end Go.Proofs.YtndjcmclmhoigaaGreatDoor
namespace Go.Proofs.YtndjcmclmhoigaaGreatDoor
open Go.RowKit
set_option maxRecDepth 100000

theorem ext_bs (l : List UInt8) (i j : Nat) : (bs l).extract i j = bs ((l.take j).drop i) := by
 apply ByteArray.ext
 rw [ByteArray.data_extract]
 show l.toArray.extract i j = ((l.take j).drop i).toArray
 rw [List.extract_toArray]
 rw [List.extract_eq_take_drop, List.drop_take]
theorem to_bs {l : List UInt8} {i : Nat} (h : i ≤ l.length) (w : World) :
 (Instr.slice 9 (.string (bs l)) none (some (.int .i64 (i : Int))) none).run Tryz.prog w = .ok (.string (bs (l.take i))) w := by
 have hs := bs_size l
 rw [run_slice_string_h (P := Tryz.prog) w 9 (bs l) Tryz.underlying9 .i64 (i : Int) (by omega) (by rw [hs]; omega)]
 rw [Int.toNat_natCast, ext_bs l 0 _, List.drop_zero]
end Go.Proofs.YtndjcmclmhoigaaGreatDoor
