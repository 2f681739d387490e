/- What LexBack wants, part 10. -/
import Derived.Test.YtahcndkifplekaaLexBackB
import Derived.Test.YtahcndkifplekaaLexBackD
import Derived.Test.YtahcndkifplekaaLexBackE
import Derived.Test.YtahcndkifplekaaLexBackG
import Derived.Test.YtahcndkifplekaaLexBackI
import Derived.Deep.Cut
import Derived.Maps.OwnSet
import Derived.LaidEqlPtr
import Derived.Maps.AppendAt
import Derived.Lib.SliceRun
import Derived.DeepKeys5
import Derived.DeepKeys3
import Derived.Outline
import Derived.Laws.BytesArg
import Derived.Deep.DrawnRows
set_option linter.unusedVariables false
set_option linter.unusedSimpArgs false
namespace Go.Proofs.Ytahcndkifplekaa
namespace ly
set_option maxRecDepth 100000
open Go.RowKit
open rows
open sec
def bys (s : ByteArray) : List Int := s.data.toList.map fun c => (c.toNat : Int)
def inNm (c : Int) : Bool := decide (97 ≤ c) && decide (c ≤ 122) || (decide (48 ≤ c) && decide (c ≤ 57)) || c == 46 || c == 95
def nameB (s : ByteArray) : Bool := decide (1 ≤ s.size) && decide (s.size ≤ 8) && !(bys s == [46]) && !(bys s == [46, 46]) && (bys s).all inNm
theorem bys_len (s : ByteArray) : (bys s).length = s.size := by simp [bys]
theorem bys_at (s : ByteArray) (k : Nat) (h : k < s.size) : (bys s)[k]? = some (s[k].toNat : Int) := by
 simp [bys, h]; rfl
theorem bys_bytes (s : ByteArray) : ∀ x ∈ bys s, 0 ≤ x ∧ x < 256 := by
 intro x hx
 obtain ⟨c, _, rfl⟩ := List.mem_map.1 hx
 have := c.toNat_lt
 omega
theorem bys_inj {s t : ByteArray} (h : bys s = bys t) : s = t := by
 have h2 : s.data.toList = t.data.toList := by
  have hi : Function.Injective (fun c : UInt8 => (c.toNat : Int)) := fun a b hab => by
   have : (a.toNat : Int) = (b.toNat : Int) := hab
   exact UInt8.toNat_inj.1 (by omega)
  exact (List.map_inj_right (fun a b hab => hi hab)).1 h
 cases s; cases t
 simp only [ByteArray.mk.injEq]
 exact Array.toList_inj.1 h2
theorem bys_lit (s : ByteArray) (l : List UInt8) : s.toList = l ↔ bys s = l.map fun c => (c.toNat : Int) := by
 have hi : Function.Injective (fun c : UInt8 => (c.toNat : Int)) := fun a b hab => by
  have : (a.toNat : Int) = (b.toNat : Int) := hab
  exact UInt8.toNat_inj.1 (by omega)
 rw [ByteArray.toList_eq]
 exact (List.map_inj_right (fun a b hab => hi hab)).symm
theorem bys_strOf {xs : List Int} (h : ∀ x ∈ xs, 0 ≤ x ∧ x < 256) : bys (strOfNums xs) = xs := by
 rw [bys, strOfNums_data, List.map_map]
 conv => rhs; rw [← List.map_id xs]
 apply List.map_congr_left
 intro x hx
 have := h x hx
 simp
 omega
theorem strOf_bys (s : ByteArray) : strOfNums (bys s) = s := bys_inj (bys_strOf (bys_bytes s))
end ly
namespace pa
set_option maxRecDepth 100000
open Go.RowKit
open ly
def isNm (l : List Int) : Bool := decide (1 ≤ l.length) && decide (l.length ≤ 8) && !(l == [46]) && !(l == [46, 46]) && l.all inNm
def seg (l : List Int) : List Int := l.takeWhile fun x => x != 47
def parse (l : List Int) : Option (List (List Int)) :=
 match l with
 | [] => some []
 | c :: t => if c = 47 ∧ isNm (seg t) = true then (parse (t.drop (seg t).length)).map (seg t :: ·) else none
termination_by l.length
decreasing_by simp; omega
def splitL (l : List Int) : Option (List (List Int)) :=
 if l = [47] then some [] else match parse l with
  | some ns => if 1 ≤ ns.length ∧ ns.length ≤ 4 then some ns else none
  | none => none
end pa
namespace pa
set_option maxRecDepth 100000
open Go.ChangeShapes Go.WideShapes Go.ChangeAt Go.RowKit
open rows
open ly
theorem bys_extract (s : ByteArray) (a b : Nat) (hb : b ≤ s.size) : bys (s.extract a b) = ((bys s).drop a).take (b - a) := by
 unfold bys
 rw [← List.map_drop, ← List.map_take]
 congr 1
 rw [ByteArray.data_extract, Array.toList_extract, List.extract]
theorem bys_getD (s : ByteArray) (k : Nat) (h : k < s.size) : (bys s).getD k 0 = (s[k].toNat : Int) := by
 rw [List.getD, bys_at s k h]; rfl
theorem drop_cons {l : List Int} {j : Nat} (h : j < l.length) : l.drop j = l.getD j 0 :: l.drop (j + 1) := by
 rw [List.drop_eq_getElem_cons h]
 congr 1
 simp [List.getD, h]
end pa
namespace vw
set_option maxRecDepth 100000
def plainB (c : Int) : Bool := decide (32 ≤ c) && decide (c ≤ 126) && !(c == 34) && !(c == 92)
def hexC (k : Int) : Int := if k < 10 then 48 + k else 87 + k
def hexV (c : Int) : Option Int := if 48 ≤ c ∧ c ≤ 57 then some (c - 48) else if 97 ≤ c ∧ c ≤ 102 then some (c - 87) else none
def signL (c : Int) : List Int := if plainB c then [c] else [92, hexC (c / 16), hexC (c % 16)]
def quoteL (l : List Int) : List Int := 34 :: ((l.map signL).flatten ++ [34])
theorem plain_iff (c : Int) : plainB c = true ↔ 32 ≤ c ∧ c ≤ 126 ∧ c ≠ 34 ∧ c ≠ 92 := by
 simp [plainB, and_assoc]
theorem hexV_dig {k : Int} (h0 : 0 ≤ k) (h1 : k < 16) : hexV (hexC k) = some k := by
 unfold hexV hexC
 by_cases h : k < 10
 ·rw [if_pos h, if_pos (by omega)]; congr 1; omega
 ·rw [if_neg h, if_neg (by omega), if_pos (by omega)]; congr 1; omega
theorem hexC_val {c k : Int} (h : hexV c = some k) : hexC k = c ∧ 0 ≤ k ∧ k < 16 := by
 unfold hexV at h
 split at h
 ·cases h; rw [hexC, if_pos (by omega)]; omega
 ·split at h
  ·cases h; rw [hexC, if_neg (by omega)]; omega
  ·cases h
def escL : List Int → Option (Int × Nat)
 | a :: b :: _ => match hexV a, hexV b with
  | some x, some y => if plainB (16 * x + y) then none else some (16 * x + y, 3)
  | _, _ => none
 | _ => none
def stepL : List Int → Option (Int × Nat)
 | [] => none
 | c :: t => if plainB c then some (c, 1) else if c = 92 then escL t else none
theorem step_yes {l : List Int} {c : Int} {n : Nat} (hb : ∀ x ∈ l, 0 ≤ x ∧ x < 256) (h : stepL l = some (c, n)) : (0 ≤ c ∧ c < 256) ∧ 1 ≤ n ∧ n ≤ l.length ∧ l.take n = signL c ∧ (signL c).length = n := by
 cases l with
 | nil => cases h
 | cons d t =>
  rw [stepL] at h
  split at h
  ·rename_i hp
   cases h
   exact ⟨hb _ List.mem_cons_self, by omega, by simp, by simp [signL, hp], by simp [signL, hp]⟩
  ·split at h
   ·rename_i hp hd
    match t, h with
    | [], h => cases h
    | [_], h => cases h
    | a :: b :: t', h =>
     simp only [escL] at h
     cases hx : hexV a with
     | none => rw [hx] at h; cases h
     | some x =>
      cases hy : hexV b with
      | none => rw [hx, hy] at h; cases h
      | some y =>
       rw [hx, hy] at h
       simp only at h
       split at h
       ·cases h
       ·rename_i hq
        cases h
        obtain ⟨ex, x0, x1⟩ := hexC_val hx
        obtain ⟨ey, y0, y1⟩ := hexC_val hy
        have e1 : (16 * x + y) / 16 = x := by omega
        have e2 : (16 * x + y) % 16 = y := by omega
        refine ⟨by omega, by omega, by simp, ?_, ?_⟩
        ·rw [signL, if_neg hq, e1, e2, ex, ey, hd]; rfl
        ·rw [signL, if_neg hq]; rfl
   ·cases h
theorem step_sign {c : Int} (h : 0 ≤ c ∧ c < 256) (r : List Int) : stepL (signL c ++ r) = some (c, (signL c).length) := by
 unfold signL
 split
 ·rename_i hp
  rw [List.singleton_append, stepL, if_pos hp]; rfl
 ·rename_i hp
  have hn : plainB 92 = false := by decide
  show stepL (92 :: hexC (c / 16) :: hexC (c % 16) :: r) = _
  rw [stepL, if_neg (by rw [hn]; decide), if_pos rfl]
  simp only [escL, hexV_dig (k := c / 16) (by omega) (by omega), hexV_dig (k := c % 16) (by omega) (by omega)]
  have e : 16 * (c / 16) + c % 16 = c := by omega
  rw [e, if_neg hp]; rfl
theorem sign_pos (c : Int) : 1 ≤ (signL c).length ∧ (signL c).length ≤ 3 := by
 unfold signL; split <;> simp
theorem sign_bytes {c : Int} (h : 0 ≤ c ∧ c < 256) : ∀ x ∈ signL c, 32 ≤ x ∧ x ≤ 126 ∧ x ≠ 34 := by
 intro x hx
 unfold signL at hx
 split at hx
 ·rename_i hp
  rw [List.mem_singleton.1 hx]
  have := (plain_iff c).1 hp; omega
 ·have d : ∀ k : Int, 0 ≤ k → k < 16 → 48 ≤ hexC k ∧ hexC k ≤ 102 := fun k h0 h1 => by unfold hexC; split <;> omega
  have d1 := d (c / 16) (by omega) (by omega)
  have d2 := d (c % 16) (by omega) (by omega)
  simp only [List.mem_cons, List.not_mem_nil, or_false] at hx
  rcases hx with rfl | rfl | rfl <;> omega
def unqF : Nat → List Int → Option (List Int)
 | 0, l => if l = [] then some [] else none
 | f + 1, l => if l = [] then some [] else match stepL l with
  | none => none
  | some (c, n) => (unqF f (l.drop n)).map (c :: ·)
def unqL (l : List Int) : Option (List Int) := unqF l.length l
theorem unqF_sign : ∀ (f : Nat) (l : List Int), (∀ x ∈ l, 0 ≤ x ∧ x < 256) → l.length ≤ f → unqF f ((l.map signL).flatten) = some l
 | 0, l, _, hl => by
  obtain rfl : l = [] := List.eq_nil_of_length_eq_zero (by omega)
  rfl
 | f + 1, [], _, _ => rfl
 | f + 1, c :: t, hb, hl => by
  have hc := hb c List.mem_cons_self
  have hs := step_sign hc ((t.map signL).flatten)
  have hp := sign_pos c
  rw [unqF, List.map_cons, List.flatten_cons, if_neg (by intro h; have := congrArg List.length h; rw [List.length_append, List.length_nil] at this; omega), hs]
  simp only
  rw [List.drop_append_of_le_length (Nat.le_refl _), List.drop_length, List.nil_append, unqF_sign f t (fun x hx => hb x (List.mem_cons_of_mem _ hx)) (by simpa using hl)]
  rfl
theorem unqF_some : ∀ (f : Nat) (r l : List Int), (∀ x ∈ r, 0 ≤ x ∧ x < 256) → unqF f r = some l → r = (l.map signL).flatten ∧ ∀ x ∈ l, 0 ≤ x ∧ x < 256
 | 0, r, l, _, h => by
  rw [unqF] at h
  split at h
  ·rename_i hr; cases h; exact ⟨hr, fun x hx => nomatch hx⟩
  ·cases h
 | f + 1, r, l, hb, h => by
  rw [unqF] at h
  split at h
  ·rename_i hr; cases h; exact ⟨hr, fun x hx => nomatch hx⟩
  ·cases hs : stepL r with
   | none => rw [hs] at h; cases h
   | some q =>
    obtain ⟨c, n⟩ := q
    rw [hs] at h
    simp only at h
    obtain ⟨hc, h1, hn, ht, hl⟩ := step_yes hb hs
    cases hu : unqF f (r.drop n) with
    | none => rw [hu] at h; cases h
    | some m =>
     rw [hu] at h
     cases h
     obtain ⟨e, hm⟩ := unqF_some f (r.drop n) m (fun x hx => hb x (List.mem_of_mem_drop hx)) hu
     refine ⟨?_, fun x hx => ?_⟩
     ·rw [List.map_cons, List.flatten_cons, ← e, ← ht, List.take_append_drop]
     ·rcases List.mem_cons.1 hx with rfl | hx
      ·exact hc
      ·exact hm x hx
theorem unqF_more : ∀ (f : Nat) (r : List Int), (∀ x ∈ r, 0 ≤ x ∧ x < 256) → r.length ≤ f → ∀ g, unqF (f + g) r = unqF f r
 | 0, r, _, hr, g => by
  obtain rfl : r = [] := List.eq_nil_of_length_eq_zero (by omega)
  cases g <;> rfl
 | f + 1, r, hb, hr, g => by
  rw [show f + 1 + g = (f + g) + 1 by omega, unqF, unqF]
  split
  ·rfl
  ·cases hs : stepL r with
   | none => rfl
   | some q =>
    obtain ⟨c, n⟩ := q
    simp only
    obtain ⟨hc, h1, hn, ht, hl⟩ := step_yes hb hs
    rw [unqF_more f (r.drop n) (fun x hx => hb x (List.mem_of_mem_drop hx)) (by rw [List.length_drop]; omega) g]
theorem unq_nil : unqL [] = some [] := rfl
theorem unq_step {r : List Int} (hb : ∀ x ∈ r, 0 ≤ x ∧ x < 256) {c : Int} {n : Nat} (h : stepL r = some (c, n)) : unqL r = (unqL (r.drop n)).map (c :: ·) := by
 obtain ⟨hc, h1, hn, ht, hl⟩ := step_yes hb h
 have hr : r ≠ [] := by intro e; rw [e] at hn; simp at hn; omega
 obtain ⟨k, hk⟩ : ∃ k, r.length = k + 1 := ⟨r.length - 1, by omega⟩
 have hd : (r.drop n).length = r.length - n := List.length_drop
 rw [unqL, hk, unqF, if_neg hr, h]
 simp only
 rw [unqL, show k = (r.drop n).length + (n - 1) by omega, unqF_more _ _ (fun x hx => hb x (List.mem_of_mem_drop hx)) (Nat.le_refl _)]
theorem unq_stop {r : List Int} (hr : r ≠ []) (h : stepL r = none) : unqL r = none := by
 obtain ⟨k, hk⟩ : ∃ k, r.length = k + 1 := ⟨r.length - 1, by have := List.length_pos_iff.2 hr; omega⟩
 rw [unqL, hk, unqF, if_neg hr, h]
theorem unq_sign (l : List Int) (hb : ∀ x ∈ l, 0 ≤ x ∧ x < 256) : unqL ((l.map signL).flatten) = some l := by
 have hl : l.length ≤ ((l.map signL).flatten).length := by
  clear hb
  induction l with
  | nil => simp
  | cons c t ih => rw [List.map_cons, List.flatten_cons, List.length_append, List.length_cons]; have := sign_pos c; omega
 exact unqF_sign _ l hb hl
theorem unq_some {r l : List Int} (hb : ∀ x ∈ r, 0 ≤ x ∧ x < 256) (h : unqL r = some l) : r = (l.map signL).flatten ∧ ∀ x ∈ l, 0 ≤ x ∧ x < 256 := unqF_some _ _ _ hb h
def unquoteL (s : List Int) : Option (List Int) := if s.length < 2 ∨ s.getD 0 0 ≠ 34 ∨ s.getD (s.length - 1) 0 ≠ 34 then none else unqL ((s.drop 1).take (s.length - 2))
theorem quote_len (l : List Int) : (quoteL l).length = ((l.map signL).flatten).length + 2 := by simp [quoteL]
theorem flat_len (l : List Int) : l.length ≤ ((l.map signL).flatten).length ∧ ((l.map signL).flatten).length ≤ 3 * l.length := by
 induction l with
 | nil => simp
 | cons c t ih => rw [List.map_cons, List.flatten_cons, List.length_append, List.length_cons]; have := sign_pos c; omega
theorem unquote_quote (l : List Int) (hb : ∀ x ∈ l, 0 ≤ x ∧ x < 256) : unquoteL (quoteL l) = some l := by
 have hq := quote_len l
 rw [unquoteL, if_neg]
 ·rw [show (quoteL l).drop 1 = (l.map signL).flatten ++ [34] from rfl, hq, show ((l.map signL).flatten).length + 2 - 2 = ((l.map signL).flatten).length by omega, List.take_left']
  ·exact unq_sign l hb
  ·rfl
 ·rintro (h | h | h)
  ·omega
  ·exact h rfl
  ·apply h
   rw [hq, show ((l.map signL).flatten).length + 2 - 1 = ((l.map signL).flatten).length + 1 by omega, quoteL, List.getD_cons_succ, List.getD, List.getElem?_append_right (Nat.le_refl _), Nat.sub_self]
   rfl
theorem quote_unquote {s l : List Int} (hb : ∀ x ∈ s, 0 ≤ x ∧ x < 256) (h : unquoteL s = some l) : quoteL l = s ∧ ∀ x ∈ l, 0 ≤ x ∧ x < 256 := by
 unfold unquoteL at h
 split at h
 ·cases h
 ·rename_i hn
  rw [not_or, not_or, Nat.not_lt, Decidable.not_not, Decidable.not_not] at hn
  obtain ⟨h2, h0, h1⟩ := hn
  obtain ⟨e, hl⟩ := unq_some (fun x hx => hb x (List.mem_of_mem_drop (List.mem_of_mem_take hx))) h
  refine ⟨?_, hl⟩
  rw [quoteL, ← e]
  match s, h2, h0, h1 with
  | a :: t, h2, h0, h1 =>
   rw [List.getD_cons_zero] at h0
   rw [h0]
   congr 1
   have ht : 1 ≤ t.length := by simpa using h2
   rw [List.length_cons, show t.length + 1 - 1 = (t.length - 1) + 1 by omega, List.getD_cons_succ] at h1
   rw [List.drop_one, List.tail_cons, List.length_cons, show t.length + 1 - 2 = t.length - 1 by omega]
   have hlt : t.length - 1 < t.length := by omega
   have e1 : t.drop (t.length - 1) = [34] := by
    rw [List.drop_eq_getElem_cons hlt, List.drop_eq_nil_of_le (by omega)]
    rw [List.getD, List.getElem?_eq_getElem hlt] at h1
    rw [show t[t.length - 1] = 34 from h1]
   conv => rhs; rw [← List.take_append_drop (t.length - 1) t, e1]
end vw
end Go.Proofs.Ytahcndkifplekaa
