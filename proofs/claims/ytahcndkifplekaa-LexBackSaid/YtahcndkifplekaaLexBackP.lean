/- What LexBack wants, part 16. -/
import Derived.Test.YtahcndkifplekaaLexBackC
import Derived.Test.YtahcndkifplekaaLexBackF
import Derived.Test.YtahcndkifplekaaLexBackJ
import Derived.Test.YtahcndkifplekaaLexBackN
import Derived.Test.YtahcndkifplekaaLexBackO
import Derived.Laws.Cover1
import Derived.Deep.DrawnRows
import Derived.BigQuiet
set_option linter.unusedVariables false
set_option linter.unusedSimpArgs false
namespace Go.Proofs.Ytahcndkifplekaa
namespace lk
set_option maxRecDepth 100000
open Go.ChangeShapes Go.WideShapes Go.ChangeAt Go.RowKit
open rows
open sec
open ly
open pa
theorem str_ext {a b : ByteArray} (h : a.toList = b.toList) : a = b := by
 have h2 : a.data.toList = b.data.toList := by rw [← ByteArray.toList_eq, ← ByteArray.toList_eq]; exact h
 cases a; cases b
 simpa using h2
end lk
namespace fs
set_option maxRecDepth 100000
open Go.ChangeShapes Go.WideShapes Go.ChangeAt Go.RowKit
open rows
open sec
open ly
open pa
open lk
def fileV (ss : List (List Int)) (s : ByteArray) : Int × Ino × Int :=
 if (lookV ss (bys s)).2 ≠ 0 then (0, ino0, (lookV ss (bys s)).2)
 else if (inoAt ss (lookV ss (bys s)).1).kind ≠ 1 then (0, ino0, 6)
 else ((lookV ss (bys s)).1, inoAt ss (lookV ss (bys s)).1, 0)
end fs
namespace fs
set_option maxRecDepth 100000
open Go.ChangeShapes Go.WideShapes Go.ChangeAt Go.RowKit
open rows
open sec
open ly
open pa
open lk
def byteAt (ss : List (List Int)) (x : Ino) (i : Nat) : Int := (ss.getD (40 + (x.b.getD (i / 32) 0).toNat) zero32).getD (i % 32) 0
def readL (ss : List (List Int)) (x : Ino) : List Int := (List.range x.size.toNat).map (byteAt ss x)
def readV (ss : List (List Int)) (s : ByteArray) : List Int × Int := if (fileV ss s).2.2 ≠ 0 then ([], (fileV ss s).2.2) else (readL ss (fileV ss s).2.1, 0)
theorem elem_by : Elem 56 5 1 1 (.int .u8 0) := ⟨Try.underlying56, by kernel_rfl, by decide, by decide, by decide⟩
end fs
namespace vw
set_option maxRecDepth 100000
open Go.ChangeShapes Go.WideShapes Go.ChangeAt Go.RowKit
open rows
open sec
open ly
open pa
open dsk (rd_laid)
theorem own_later {w w' : World} {B : Nat} {e : TypeId} {sz n : Nat} {v : Value} {cs : List Value} (h : Own w B e sz v n cs) (hb : Below w.heap.size w w') : Own w' B e sz v n cs :=
 ⟨h.1, h.2.elim Or.inl fun ⟨g, cap, cur, h1, h2, h3, r⟩ => Or.inr ⟨g, cap, cur, h1, h2, (hb.block g (Array.getElem?_eq_some_iff.1 h3).1).trans h3, r⟩⟩
theorem digits_at : ∀ k : Nat, (h : k < 16) → ((({ data := #[48, 49, 50, 51, 52, 53, 54, 55, 56, 57, 97, 98, 99, 100, 101, 102] } : ByteArray)[k]'h).toNat : Int) = hexC (k : Int) := by decide
set_option maxRecDepth 100000 in
set_option maxHeartbeats 1600000 in
theorem sign_any (c : Int) (h0 : 0 ≤ c) (h1 : c < 256) (w : World) : Calls Try.prog 46 #[.int .u8 c] w fun e w' => e = .returned (.string (strOfNums (signL c))) ∧ Below w.heap.size w w' := by
 by_cases hp : plainB c = true
 ·obtain ⟨p1, p2, p3, p4⟩ := (plain_iff c).1 hp
  have e : signL c = [c] := by rw [signL, if_pos hp]
  rw [e]
  clear hp e
  have d3 : (c != 34) = true := by simpa using p3
  have d4 : (c != 92) = true := by simpa using p4
  go_enter Try.func46, Try.ntmps46
  go_wp2_with fail
  rw [conv_rd1 (xs := [c]) (rd_laid w 5 1 [.int .u8 c] rfl)]
  go_wp2_with fail
  go_ret
  exact ⟨rfl, below_alloc (Below.refl _ _) _⟩
 ·have key : c < 32 ∨ 126 < c ∨ c = 34 ∨ c = 92 := by
   have := mt (plain_iff c).2 hp
   omega
  have e : signL c = [92, hexC (c / 16), hexC (c % 16)] := by rw [signL, if_neg hp]
  rw [e]
  clear hp e
  have q1 := digits_at (c / 16).toNat (by omega)
  have q2 := digits_at (c % 16).toNat (by omega)
  rw [show (((c / 16).toNat : Nat) : Int) = c / 16 by omega] at q1
  rw [show (((c % 16).toNat : Nat) : Int) = c % 16 by omega] at q2
  generalize hexC (c / 16) = x at *
  generalize hexC (c % 16) = y at *
  have hrd := rd_lit w 5 1 3 #[.int .u8 92, .int .u8 x, .int .u8 y] rfl (by decide) (by decide)
  have hcv := conv_rd1 (xs := [92, x, y]) (hrd.later (Below.refl _ _).drew)
  have hbl := (below_alloc (Below.refl w.heap.size w) (.cells #[.int .u8 92, .int .u8 x, .int .u8 y] 5)).drew
  rcases key with h | h | h | h
  ·have d1 : decide (32 ≤ c) = false := by simp; omega
   go_enter Try.func46, Try.ntmps46
   go_upto_region 3 with fail
   go_region
   go_wp2_with fail
   go_ret
   exact ⟨rfl, hbl⟩
  ·have d1 : decide (c ≤ 126) = false := by simp; omega
   go_enter Try.func46, Try.ntmps46
   go_upto_region 3 with fail
   go_region
   go_wp2_with fail
   go_ret
   exact ⟨rfl, hbl⟩
  ·subst h
   obtain rfl : 50 = x := by rw [← q1]; rfl
   obtain rfl : 50 = y := by rw [← q2]; rfl
   clear q1 q2
   have r1 : (((({ data := #[48, 49, 50, 51, 52, 53, 54, 55, 56, 57, 97, 98, 99, 100, 101, 102] } : ByteArray)[2]'(by decide)).toNat : Nat) : Int) = 50 := rfl
   have r2 : (((({ data := #[48, 49, 50, 51, 52, 53, 54, 55, 56, 57, 97, 98, 99, 100, 101, 102] } : ByteArray)[2]'(by decide)).toNat : Nat) : Int) = 50 := rfl
   go_enter Try.func46, Try.ntmps46
   go_upto_region 3 with fail
   go_region
   go_wp2_with fail
   go_ret
   exact ⟨rfl, hbl⟩
  ·subst h
   obtain rfl : 53 = x := by rw [← q1]; rfl
   obtain rfl : 99 = y := by rw [← q2]; rfl
   clear q1 q2
   have r1 : (((({ data := #[48, 49, 50, 51, 52, 53, 54, 55, 56, 57, 97, 98, 99, 100, 101, 102] } : ByteArray)[5]'(by decide)).toNat : Nat) : Int) = 53 := rfl
   have r2 : (((({ data := #[48, 49, 50, 51, 52, 53, 54, 55, 56, 57, 97, 98, 99, 100, 101, 102] } : ByteArray)[12]'(by decide)).toNat : Nat) : Int) = 99 := rfl
   go_enter Try.func46, Try.ntmps46
   go_upto_region 3 with fail
   go_region
   go_wp2_with fail
   go_ret
   exact ⟨rfl, hbl⟩
end vw
namespace vw
set_option maxRecDepth 100000
open Go.ChangeShapes Go.WideShapes Go.ChangeAt Go.RowKit
open rows
open sec
open ly
open pa
def qU (s : ByteArray) (i : Nat) : List Int := 34 :: (((bys s).take i).map signL).flatten
theorem qU_succ (s : ByteArray) {i : Nat} (h : i < s.size) : qU s (i + 1) = qU s i ++ signL (s[i].toNat : Int) := by
 have hl : i < (bys s).length := by rw [bys_len]; exact h
 have e : (bys s)[i] = (s[i].toNat : Int) := Option.some.inj ((List.getElem?_eq_getElem hl).symm.trans (bys_at s i h))
 rw [qU, qU, List.take_succ_eq_append_getElem hl, List.map_append, List.flatten_append, e]
 simp
theorem qU_all (s : ByteArray) : qU s s.size ++ [34] = quoteL (bys s) := by
 rw [qU, quoteL, ← bys_len, List.take_length]; rfl
theorem qU_len (s : ByteArray) (i : Nat) : (qU s i).length ≤ 3 * s.size + 1 := by
 have := (flat_len ((bys s).take i)).2
 have h2 : ((bys s).take i).length ≤ s.size := by rw [List.length_take, bys_len]; omega
 rw [qU, List.length_cons]; omega
def UqAt (s : ByteArray) (j : Nat) (out : List Int) : Prop := j + 2 ≤ s.size ∧ unquoteL (bys s) = (unqL ((((bys s).drop 1).take (s.size - 2)).drop j)).map (out ++ ·) ∧ (∀ x ∈ out, 0 ≤ x ∧ x < 256) ∧ out.length ≤ j
theorem uq_start {s : ByteArray} (h2 : 2 ≤ s.size) (h0 : (bys s).getD 0 0 = 34) (h1 : (bys s).getD (s.size - 1) 0 = 34) : UqAt s 0 [] := by
 refine ⟨by omega, ?_, fun x hx => (nomatch hx), Nat.le_refl _⟩
 rw [unquoteL, if_neg (by rw [bys_len]; omega), bys_len, List.drop_zero]
 cases unqL _ <;> simp
theorem uq_mid_len {s : ByteArray} (j : Nat) (h : j + 2 ≤ s.size) : ((((bys s).drop 1).take (s.size - 2)).drop j).length = s.size - 2 - j := by
 rw [List.length_drop, List.length_take, List.length_drop, bys_len]; omega
theorem uq_bytes {s : ByteArray} (j : Nat) : ∀ x ∈ (((bys s).drop 1).take (s.size - 2)).drop j, 0 ≤ x ∧ x < 256 := fun x hx => bys_bytes s x (List.mem_of_mem_drop (List.mem_of_mem_take (List.mem_of_mem_drop hx)))
theorem uq_step {s : ByteArray} {j : Nat} {out : List Int} (h : UqAt s j out) {c : Int} {n : Nat} (hs : stepL ((((bys s).drop 1).take (s.size - 2)).drop j) = some (c, n)) : UqAt s (j + n) (out ++ [c]) ∧ 1 ≤ n ∧ (0 ≤ c ∧ c < 256) := by
 obtain ⟨h1, h2, h3, h4⟩ := h
 obtain ⟨hc, n1, nl, _, _⟩ := step_yes (uq_bytes j) hs
 rw [uq_mid_len j h1] at nl
 refine ⟨⟨by omega, ?_, fun x hx => ?_, by rw [List.length_append, List.length_singleton]; omega⟩, n1, hc⟩
 ·rw [h2, unq_step (uq_bytes j) hs, List.drop_drop]
  cases unqL ((((bys s).drop 1).take (s.size - 2)).drop (j + n)) <;> simp
 ·rcases List.mem_append.1 hx with hx | hx
  ·exact h3 x hx
  ·rw [List.mem_singleton.1 hx]; exact hc
theorem uq_stop {s : ByteArray} {j : Nat} {out : List Int} (h : UqAt s j out) (hj : j + 2 < s.size) (hs : stepL ((((bys s).drop 1).take (s.size - 2)).drop j) = none) : unquoteL (bys s) = none := by
 rw [h.2.1, unq_stop (by intro e; have := uq_mid_len j h.1; rw [e] at this; simp at this; omega) hs]; rfl
theorem uq_done {s : ByteArray} {j : Nat} {out : List Int} (h : UqAt s j out) (hj : s.size ≤ j + 2) : unquoteL (bys s) = some out := by
 have h0 := uq_mid_len j h.1
 rw [h.2.1, show (((bys s).drop 1).take (s.size - 2)).drop j = [] from List.eq_nil_of_length_eq_zero (by omega), unq_nil]; simp
end vw
namespace vw
set_option maxRecDepth 100000
open Go.ChangeShapes Go.WideShapes Go.ChangeAt Go.RowKit
open rows
open sec
open ly
open pa
theorem u8_lt (b : UInt8) : (b.toNat : Int) < 256 := by have := b.toNat_lt; omega
def hv (x : Int) : Int := (hexV x).getD 0
end vw
end Go.Proofs.Ytahcndkifplekaa
