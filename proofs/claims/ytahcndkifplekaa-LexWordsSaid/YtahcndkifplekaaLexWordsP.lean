/- What LexWords wants, part 16. -/
import Derived.Test.YtahcndkifplekaaLexWordsC
import Derived.Test.YtahcndkifplekaaLexWordsF
import Derived.Test.YtahcndkifplekaaLexWordsJ
import Derived.Test.YtahcndkifplekaaLexWordsN
import Derived.Test.YtahcndkifplekaaLexWordsO
import Derived.Laws.Cover1
import Derived.Deep.DrawnRows
import Derived.BigQuiet
set_option linter.unusedVariables false
set_option linter.unusedSimpArgs false
namespace Go.Proofs.Ytahcndkifplekaa
namespace lk
set_option maxRecDepth 100000
open Go.ChangeShapes Go.WideShapes Go.ChangeAt Go.RowKit
open rows
open sec
open ly
open pa
theorem str_ext {a b : ByteArray} (h : a.toList = b.toList) : a = b := by
 have h2 : a.data.toList = b.data.toList := by rw [← ByteArray.toList_eq, ← ByteArray.toList_eq]; exact h
 cases a; cases b
 simpa using h2
end lk
namespace fs
set_option maxRecDepth 100000
open Go.ChangeShapes Go.WideShapes Go.ChangeAt Go.RowKit
open rows
open sec
open ly
open pa
open lk
def fileV (ss : List (List Int)) (s : ByteArray) : Int × Ino × Int :=
 if (lookV ss (bys s)).2 ≠ 0 then (0, ino0, (lookV ss (bys s)).2)
 else if (inoAt ss (lookV ss (bys s)).1).kind ≠ 1 then (0, ino0, 6)
 else ((lookV ss (bys s)).1, inoAt ss (lookV ss (bys s)).1, 0)
end fs
namespace fs
set_option maxRecDepth 100000
open Go.ChangeShapes Go.WideShapes Go.ChangeAt Go.RowKit
open rows
open sec
open ly
open pa
open lk
def byteAt (ss : List (List Int)) (x : Ino) (i : Nat) : Int := (ss.getD (40 + (x.b.getD (i / 32) 0).toNat) zero32).getD (i % 32) 0
def readL (ss : List (List Int)) (x : Ino) : List Int := (List.range x.size.toNat).map (byteAt ss x)
def readV (ss : List (List Int)) (s : ByteArray) : List Int × Int := if (fileV ss s).2.2 ≠ 0 then ([], (fileV ss s).2.2) else (readL ss (fileV ss s).2.1, 0)
theorem elem_by : Elem 56 5 1 1 (.int .u8 0) := ⟨Try.underlying56, by kernel_rfl, by decide, by decide, by decide⟩
end fs
namespace vw
set_option maxRecDepth 100000
open Go.ChangeShapes Go.WideShapes Go.ChangeAt Go.RowKit
open rows
open sec
open ly
open pa
open dsk (rd_laid)
theorem own_later {w w' : World} {B : Nat} {e : TypeId} {sz n : Nat} {v : Value} {cs : List Value} (h : Own w B e sz v n cs) (hb : Below w.heap.size w w') : Own w' B e sz v n cs :=
 ⟨h.1, h.2.elim Or.inl fun ⟨g, cap, cur, h1, h2, h3, r⟩ => Or.inr ⟨g, cap, cur, h1, h2, (hb.block g (Array.getElem?_eq_some_iff.1 h3).1).trans h3, r⟩⟩
theorem digits_at : ∀ k : Nat, (h : k < 16) → ((({ data := #[48, 49, 50, 51, 52, 53, 54, 55, 56, 57, 97, 98, 99, 100, 101, 102] } : ByteArray)[k]'h).toNat : Int) = hexC (k : Int) := by decide
set_option maxHeartbeats 1600000 in
theorem value_any (c : Int) (h0 : 0 ≤ c) (h1 : c < 256) (w : World) : Calls Try.prog 52 #[.int .u8 c] w fun e w' => e = .returned (.int .u8 ((hexV c).getD 0)) ∧ w = w' := by
 obtain ⟨V, hV⟩ : ∃ V, (hexV c).getD 0 = V := ⟨_, rfl⟩
 rw [hV]
 unfold hexV at hV
 by_cases ha : 48 ≤ c ∧ c ≤ 57
 ·rw [if_pos ha] at hV
  simp only [Option.getD_some] at hV
  obtain ⟨a1, a2⟩ := ha
  have d1 : decide (c ≤ 57) = true := by simpa using a2
  go_enter Try.func52, Try.ntmps52
  go_wp2_with fail
  go_ret
  exact ⟨rfl, rfl⟩
 ·rw [if_neg ha] at hV
  by_cases hb : 97 ≤ c ∧ c ≤ 102
  ·rw [if_pos hb] at hV
   simp only [Option.getD_some] at hV
   obtain ⟨b1, b2⟩ := hb
   have d0 : decide (c ≤ 57) = false := by simp; omega
   have d1 : decide (c ≤ 102) = true := by simpa using b2
   go_enter Try.func52, Try.ntmps52
   go_wp2_with fail
   go_ret
   exact ⟨by rw [← hV, show c - 87 = c - 97 + 10 by omega]; rfl, rfl⟩
  ·rw [if_neg hb] at hV
   go_enter Try.func52, Try.ntmps52
   by_cases hx : 48 ≤ c
   ·have d0 : decide (c ≤ 57) = false := by simp; omega
    by_cases hy : 97 ≤ c
    ·have d1 : decide (c ≤ 102) = false := by simp; omega
     go_wp2_with fail
     go_ret
     exact ⟨by rw [← hV]; rfl, rfl⟩
    ·go_wp2_with fail
     go_ret
     exact ⟨by rw [← hV]; rfl, rfl⟩
   ·go_wp2_with fail
    go_ret
    exact ⟨by rw [← hV]; rfl, rfl⟩
set_option maxRecDepth 100000 in
set_option maxHeartbeats 1600000 in
theorem sign_any (c : Int) (h0 : 0 ≤ c) (h1 : c < 256) (w : World) : Calls Try.prog 46 #[.int .u8 c] w fun e w' => e = .returned (.string (strOfNums (signL c))) ∧ Below w.heap.size w w' := by
 by_cases hp : plainB c = true
 ·obtain ⟨p1, p2, p3, p4⟩ := (plain_iff c).1 hp
  have e : signL c = [c] := by rw [signL, if_pos hp]
  rw [e]
  clear hp e
  have d3 : (c != 34) = true := by simpa using p3
  have d4 : (c != 92) = true := by simpa using p4
  go_enter Try.func46, Try.ntmps46
  go_wp2_with fail
  rw [conv_rd1 (xs := [c]) (rd_laid w 5 1 [.int .u8 c] rfl)]
  go_wp2_with fail
  go_ret
  exact ⟨rfl, below_alloc (Below.refl _ _) _⟩
 ·have key : c < 32 ∨ 126 < c ∨ c = 34 ∨ c = 92 := by
   have := mt (plain_iff c).2 hp
   omega
  have e : signL c = [92, hexC (c / 16), hexC (c % 16)] := by rw [signL, if_neg hp]
  rw [e]
  clear hp e
  have q1 := digits_at (c / 16).toNat (by omega)
  have q2 := digits_at (c % 16).toNat (by omega)
  rw [show (((c / 16).toNat : Nat) : Int) = c / 16 by omega] at q1
  rw [show (((c % 16).toNat : Nat) : Int) = c % 16 by omega] at q2
  generalize hexC (c / 16) = x at *
  generalize hexC (c % 16) = y at *
  have hrd := rd_lit w 5 1 3 #[.int .u8 92, .int .u8 x, .int .u8 y] rfl (by decide) (by decide)
  have hcv := conv_rd1 (xs := [92, x, y]) (hrd.later (Below.refl _ _).drew)
  have hbl := (below_alloc (Below.refl w.heap.size w) (.cells #[.int .u8 92, .int .u8 x, .int .u8 y] 5)).drew
  rcases key with h | h | h | h
  ·have d1 : decide (32 ≤ c) = false := by simp; omega
   go_enter Try.func46, Try.ntmps46
   go_upto_region 3 with fail
   go_region
   go_wp2_with fail
   go_ret
   exact ⟨rfl, hbl⟩
  ·have d1 : decide (c ≤ 126) = false := by simp; omega
   go_enter Try.func46, Try.ntmps46
   go_upto_region 3 with fail
   go_region
   go_wp2_with fail
   go_ret
   exact ⟨rfl, hbl⟩
  ·subst h
   obtain rfl : 50 = x := by rw [← q1]; rfl
   obtain rfl : 50 = y := by rw [← q2]; rfl
   clear q1 q2
   have r1 : (((({ data := #[48, 49, 50, 51, 52, 53, 54, 55, 56, 57, 97, 98, 99, 100, 101, 102] } : ByteArray)[2]'(by decide)).toNat : Nat) : Int) = 50 := rfl
   have r2 : (((({ data := #[48, 49, 50, 51, 52, 53, 54, 55, 56, 57, 97, 98, 99, 100, 101, 102] } : ByteArray)[2]'(by decide)).toNat : Nat) : Int) = 50 := rfl
   go_enter Try.func46, Try.ntmps46
   go_upto_region 3 with fail
   go_region
   go_wp2_with fail
   go_ret
   exact ⟨rfl, hbl⟩
  ·subst h
   obtain rfl : 53 = x := by rw [← q1]; rfl
   obtain rfl : 99 = y := by rw [← q2]; rfl
   clear q1 q2
   have r1 : (((({ data := #[48, 49, 50, 51, 52, 53, 54, 55, 56, 57, 97, 98, 99, 100, 101, 102] } : ByteArray)[5]'(by decide)).toNat : Nat) : Int) = 53 := rfl
   have r2 : (((({ data := #[48, 49, 50, 51, 52, 53, 54, 55, 56, 57, 97, 98, 99, 100, 101, 102] } : ByteArray)[12]'(by decide)).toNat : Nat) : Int) = 99 := rfl
   go_enter Try.func46, Try.ntmps46
   go_upto_region 3 with fail
   go_region
   go_wp2_with fail
   go_ret
   exact ⟨rfl, hbl⟩
end vw
namespace vw
set_option maxRecDepth 100000
open Go.ChangeShapes Go.WideShapes Go.ChangeAt Go.RowKit
open rows
open sec
open ly
open pa
def qU (s : ByteArray) (i : Nat) : List Int := 34 :: (((bys s).take i).map signL).flatten
theorem qU_succ (s : ByteArray) {i : Nat} (h : i < s.size) : qU s (i + 1) = qU s i ++ signL (s[i].toNat : Int) := by
 have hl : i < (bys s).length := by rw [bys_len]; exact h
 have e : (bys s)[i] = (s[i].toNat : Int) := Option.some.inj ((List.getElem?_eq_getElem hl).symm.trans (bys_at s i h))
 rw [qU, qU, List.take_succ_eq_append_getElem hl, List.map_append, List.flatten_append, e]
 simp
theorem qU_all (s : ByteArray) : qU s s.size ++ [34] = quoteL (bys s) := by
 rw [qU, quoteL, ← bys_len, List.take_length]; rfl
theorem qU_len (s : ByteArray) (i : Nat) : (qU s i).length ≤ 3 * s.size + 1 := by
 have := (flat_len ((bys s).take i)).2
 have h2 : ((bys s).take i).length ≤ s.size := by rw [List.length_take, bys_len]; omega
 rw [qU, List.length_cons]; omega
def UqAt (s : ByteArray) (j : Nat) (out : List Int) : Prop := j + 2 ≤ s.size ∧ unquoteL (bys s) = (unqL ((((bys s).drop 1).take (s.size - 2)).drop j)).map (out ++ ·) ∧ (∀ x ∈ out, 0 ≤ x ∧ x < 256) ∧ out.length ≤ j
theorem uq_start {s : ByteArray} (h2 : 2 ≤ s.size) (h0 : (bys s).getD 0 0 = 34) (h1 : (bys s).getD (s.size - 1) 0 = 34) : UqAt s 0 [] := by
 refine ⟨by omega, ?_, fun x hx => (nomatch hx), Nat.le_refl _⟩
 rw [unquoteL, if_neg (by rw [bys_len]; omega), bys_len, List.drop_zero]
 cases unqL _ <;> simp
theorem uq_mid_len {s : ByteArray} (j : Nat) (h : j + 2 ≤ s.size) : ((((bys s).drop 1).take (s.size - 2)).drop j).length = s.size - 2 - j := by
 rw [List.length_drop, List.length_take, List.length_drop, bys_len]; omega
theorem uq_bytes {s : ByteArray} (j : Nat) : ∀ x ∈ (((bys s).drop 1).take (s.size - 2)).drop j, 0 ≤ x ∧ x < 256 := fun x hx => bys_bytes s x (List.mem_of_mem_drop (List.mem_of_mem_take (List.mem_of_mem_drop hx)))
theorem uq_step {s : ByteArray} {j : Nat} {out : List Int} (h : UqAt s j out) {c : Int} {n : Nat} (hs : stepL ((((bys s).drop 1).take (s.size - 2)).drop j) = some (c, n)) : UqAt s (j + n) (out ++ [c]) ∧ 1 ≤ n ∧ (0 ≤ c ∧ c < 256) := by
 obtain ⟨h1, h2, h3, h4⟩ := h
 obtain ⟨hc, n1, nl, _, _⟩ := step_yes (uq_bytes j) hs
 rw [uq_mid_len j h1] at nl
 refine ⟨⟨by omega, ?_, fun x hx => ?_, by rw [List.length_append, List.length_singleton]; omega⟩, n1, hc⟩
 ·rw [h2, unq_step (uq_bytes j) hs, List.drop_drop]
  cases unqL ((((bys s).drop 1).take (s.size - 2)).drop (j + n)) <;> simp
 ·rcases List.mem_append.1 hx with hx | hx
  ·exact h3 x hx
  ·rw [List.mem_singleton.1 hx]; exact hc
theorem uq_stop {s : ByteArray} {j : Nat} {out : List Int} (h : UqAt s j out) (hj : j + 2 < s.size) (hs : stepL ((((bys s).drop 1).take (s.size - 2)).drop j) = none) : unquoteL (bys s) = none := by
 rw [h.2.1, unq_stop (by intro e; have := uq_mid_len j h.1; rw [e] at this; simp at this; omega) hs]; rfl
theorem uq_done {s : ByteArray} {j : Nat} {out : List Int} (h : UqAt s j out) (hj : s.size ≤ j + 2) : unquoteL (bys s) = some out := by
 have h0 := uq_mid_len j h.1
 rw [h.2.1, show (((bys s).drop 1).take (s.size - 2)).drop j = [] from List.eq_nil_of_length_eq_zero (by omega), unq_nil]; simp
theorem uq_at {s : ByteArray} {j : Nat} (i : Nat) (h : j + i + 2 < s.size) : ((((bys s).drop 1).take (s.size - 2)).drop j)[i]? = some ((s[1 + j + i]'(by omega)).toNat : Int) := by
 rw [List.getElem?_drop, List.getElem?_take, if_pos (by omega), List.getElem?_drop, ← bys_at s (1 + j + i) (by omega), Nat.add_assoc]
end vw
namespace vw
set_option maxRecDepth 100000
open Go.ChangeShapes Go.WideShapes Go.ChangeAt Go.RowKit
open rows
open sec
open ly
open pa
open lk (str_ext)
open fs (elem_by)
theorem below_drewN {B : Nat} {w w' : World} (h : Below B w w') (n : Nat) : Below B w (w'.drewN n) := ⟨h.1, h.2, h.3, h.4, h.5⟩
theorem bytes_ext {a b : ByteArray} (h : a.toList = b.toList) : a = b := str_ext h
theorem u8_lt (b : UInt8) : (b.toNat : Int) < 256 := by have := b.toNat_lt; omega
def hv (x : Int) : Int := (hexV x).getD 0
theorem hv_small (x : Int) : 0 ≤ hv x ∧ hv x < 16 := by
 unfold hv
 cases h : hexV x with
 | none => simp
 | some k => have := hexC_val h; simp; omega
def rs1 (r : List Int) : Int := if r.getD 0 0 = 92 ∧ 3 ≤ r.length then 16 * hv (r.getD 1 0) + hv (r.getD 2 0) else r.getD 0 0
def rs2 (r : List Int) : Nat := if r.getD 0 0 = 92 ∧ 3 ≤ r.length then 3 else 1
theorem rs_small {r : List Int} (hb : ∀ x ∈ r, 0 ≤ x ∧ x < 256) (h0 : r ≠ []) : 0 ≤ rs1 r ∧ rs1 r < 256 := by
 unfold rs1
 split
 ·have := hv_small (r.getD 1 0); have := hv_small (r.getD 2 0); omega
 ·match r, h0 with
  | c :: t, _ => exact hb c List.mem_cons_self
theorem rs_yes {r : List Int} (hb : ∀ x ∈ r, 0 ≤ x ∧ x < 256) (h0 : r ≠ []) (h : signL (rs1 r) = r.take (rs2 r)) : stepL r = some (rs1 r, rs2 r) := by
 have h1 := step_sign (rs_small hb h0) (r.drop (rs2 r))
 rw [h, List.take_append_drop] at h1
 rw [h1]
 congr 2
 rw [List.length_take]
 have : rs2 r ≤ r.length := by
  unfold rs2; split
  ·omega
  ·have := List.length_pos_iff.2 h0; omega
 omega
theorem rs_no {r : List Int} (hb : ∀ x ∈ r, 0 ≤ x ∧ x < 256) (h0 : r ≠ []) (h : signL (rs1 r) ≠ r.take (rs2 r)) : stepL r = none := by
 cases hs : stepL r with
 | none => rfl
 | some q =>
  exfalso
  apply h
  obtain ⟨c, n⟩ := q
  obtain ⟨hc, n1, nl, ht, hl⟩ := step_yes hb hs
  match r, h0 with
  | d :: t, _ =>
   by_cases hp : plainB d = true
   ·have hd : d ≠ 92 := ((plain_iff d).1 hp).2.2.2
    rw [rs1, rs2, if_neg (by simp [hd]), if_neg (by simp [hd])]
    simp [signL, hp]
   ·rw [stepL, if_neg hp] at hs
    split at hs
    ·rename_i hd
     match t, hs with
     | a :: b :: t', hs =>
      simp only [escL] at hs
      cases hx : hexV a with
      | none => rw [hx] at hs; cases hs
      | some x =>
       cases hy : hexV b with
       | none => rw [hx, hy] at hs; cases hs
       | some y =>
        rw [hx, hy] at hs
        simp only at hs
        split at hs
        ·cases hs
        ·cases hs
         have e1 : rs1 (d :: a :: b :: t') = 16 * x + y := by
          rw [rs1, if_pos (by simp [hd])]; simp [hv, hx, hy]
         have e2 : rs2 (d :: a :: b :: t') = 3 := by rw [rs2, if_pos (by simp [hd])]
         rw [e1, e2, ht]
     | [], hs => cases hs
     | [_], hs => cases hs
    ·cases hs
set_option maxRecDepth 100000 in
set_option maxHeartbeats 3200000 in
theorem runquote_any (s : ByteArray) (w : World) (hs : s.size ≤ 100000) : Calls Try.prog 42 #[.string s] w fun e w' => e = .returned (.tuple #[.string (strOfNums ((unquoteL (bys s)).getD [])), .bool (unquoteL (bys s)).isSome]) ∧ Below w.heap.size w w' := by
 have hs9 : (s.size : Int) ≤ 100000 := by omega
 by_cases h2 : s.size < 2
 ·have e : unquoteL (bys s) = none := by rw [unquoteL, if_pos (Or.inl (by rw [bys_len]; exact h2))]
  rw [e]
  have d1 : decide ((s.size : Int) < 2) = true := by simp; omega
  go_enter Try.func42, Try.ntmps42
  go_wp2_with fail
  go_ret2
  exact ⟨rfl, Below.refl _ _⟩
 ·have d1 : decide ((s.size : Int) < 2) = false := by simp; omega
  have hlt0 : 0 < s.size := by omega
  have hltl : s.size - 1 < s.size := by omega
  have b0 := bys_getD s 0 hlt0
  have b1 := bys_getD s (s.size - 1) hltl
  go_enter Try.func42, Try.ntmps42
  by_cases hq0 : (s[0].toNat : Int) = 34
  ·by_cases hq1 : (s[s.size - 1].toNat : Int) = 34
   ·have U0 := Lib.hid (uq_start (s := s) (by omega) (b0.trans hq0) (b1.trans hq1))
    have g0 : ((s[0].toNat : Int) != 34) = false := by simpa using hq0
    have g1 : ((s[s.size - 1].toNat : Int) != 34) = false := by simpa using hq1
    clear hq0 hq1 b0 b1
    go_upto_region 5 with fail
    go_wp2_with fail
    go_loopw [4, 5] (fun bv iv wr => ∃ (i : Nat) (out : List Int) (q : Option Addr) (k : Nat), UqAt s (i - 1) out ∧ 1 ≤ i ∧ iv = .int .i64 (i : Int) ∧ bv = .slice q out.length k ∧ Hid (Own wr w.heap.size 5 1 (.slice q out.length k) out.length (u8s out)) ∧ Hid (Below w.heap.size w wr)) (fun _ iv _ => s.size - (intOf iv).toNat)
    case atStart => exact ⟨1, [], none, 0, U0.out, by omega, rfl, rfl, Lib.hid (own_nil _ _ _ _), Lib.hid (Below.refl _ _)⟩
    case round =>
     clear U0 g0 g1
     obtain ⟨i, out, q, k, hu, hi1, rfl, rfl, HO, HB⟩ := hrel
     have hi2 := hu.1
     by_cases hlt : i + 1 < s.size
     ·have hlti : (i : Int) < s.size - 1 := by omega
      have his : i < s.size := by omega
      obtain ⟨r, hr⟩ : ∃ r, (((bys s).drop 1).take (s.size - 2)).drop (i - 1) = r := ⟨_, rfl⟩
      have hrl : r.length = s.size - 1 - i := by rw [← hr, uq_mid_len _ hi2]; omega
      have hrb : ∀ x ∈ r, 0 ≤ x ∧ x < 256 := by rw [← hr]; exact uq_bytes _
      have hrn : r ≠ [] := by intro e; rw [e] at hrl; simp at hrl; omega
      have hat : ∀ j, (h : i + j + 1 < s.size) → r.getD j 0 = ((s[i + j]'(by omega)).toNat : Int) := fun j h => by
       rw [List.getD, ← hr, uq_at j (by omega)]
       simp only [Option.getD_some]
       congr 3; omega
      have ha0 := hat 0 hlt
      simp only [Nat.add_zero] at ha0
      obtain ⟨r1, hr1⟩ : ∃ x, rs1 r = x := ⟨_, rfl⟩
      obtain ⟨r2, hr2⟩ : ∃ x, rs2 r = x := ⟨_, rfl⟩
      have RS := Lib.hid (rs_small hrb hrn)
      have RY := Lib.hid (rs_yes hrb hrn)
      have RN := Lib.hid (rs_no hrb hrn)
      rw [hr1] at RS RY RN
      rw [hr2] at RY RN
      have hr23 : r2 = 1 ∨ r2 = 3 ∧ i + 3 < s.size := by
       rw [← hr2, rs2]; split
       ·right; exact ⟨rfl, by omega⟩
       ·left; rfl
      have HU := Lib.hid hu
      have HR := Lib.hid hr
      have HAT := Lib.hid hat
      have HA0 := Lib.hid ha0
      have HRL := Lib.hid hrl
      have HR1 := Lib.hid hr1
      have HR2 := Lib.hid hr2
      have HI2 := Lib.hid hi2
      clear hat ha0 hrl hrb hrn hr1 hr2 hr hu hi2
      go_upto_region 8 with fail
      obtain ⟨B8, hB8⟩ : ∃ b, decide ((s[i].toNat : Int) = 92 ∧ i + 3 < s.size) = b := ⟨_, rfl⟩
      have HB8 := Lib.hid hB8
      clear hB8
      go_cut [43] from 34 to 43 (fun bv wc => bv = .bool B8 ∧ wc = wr)
      case first =>
       clear RY RN HU HR HO HB hr23 RS HI2 HR1 HR2 HAT HA0 HRL
       by_cases hb : (s[i].toNat : Int) = 92
       ·have g0 : ((s[i].toNat : Int) == 92) = true := by simpa using hb
        by_cases h3 : i + 3 < s.size
        ·have h3i : (i : Int) + 2 < s.size - 1 := by omega
         obtain rfl : true = B8 := by rw [← HB8.out]; simp [hb, h3]
         clear hb
         go_wp2_with fail
         go_meet
         case rel => exact ⟨rfl, rfl⟩
        ·have h3i : decide ((i : Int) + 2 < s.size - 1) = false := by simp; omega
         obtain rfl : false = B8 := by rw [← HB8.out]; simp [h3]
         clear hb
         go_wp2_with fail
         go_meet
         case rel => exact ⟨rfl, rfl⟩
       ·have g0 : ((s[i].toNat : Int) == 92) = false := by simpa using hb
        obtain rfl : false = B8 := by rw [← HB8.out]; simp [hb]
        clear hb
        go_wp2_with fail
        go_meet
        case rel => exact ⟨rfl, rfl⟩
      case rest =>
      obtain ⟨rfl, hw⟩ := hcut
      obtain rfl := hw.symm
      go_upto_if 43 with fail
      go_cut [6, 7] from 44 to 55 (fun cv wv wc => cv = .int .u8 r1 ∧ wv = .int .i64 (r2 : Int) ∧ Hid (Own wc w.heap.size 5 1 (.slice q out.length k) out.length (u8s out)) ∧ Hid (Below w.heap.size w wc))
      case first =>
       clear RY RN HU HR hr23 RS HI2
       have hr1 := HR1.out
       have hr2 := HR2.out
       clear HR1 HR2
       cases B8 with
       | true =>
        obtain ⟨hb, h3⟩ := of_decide_eq_true HB8.out
        have c0 := HAT.out 1 (by omega)
        have c1 := HAT.out 2 (by omega)
        have hrl := HRL.out
        rw [rs1, if_pos ⟨HA0.out.trans hb, by omega⟩, c0, c1] at hr1
        rw [rs2, if_pos ⟨HA0.out.trans hb, by omega⟩] at hr2
        obtain ⟨i1, hi1e⟩ : ∃ i1, i1 = i + 1 := ⟨_, rfl⟩
        obtain ⟨i2, hi2e⟩ : ∃ i2, i2 = i + 2 := ⟨_, rfl⟩
        have g1 : i1 < s.size := by omega
        have g2 : i2 < s.size := by omega
        have q1 : s[i + 1] = s[i1] := by simp only [hi1e]
        have q2 : s[i + 2] = s[i2] := by simp only [hi2e]
        rw [q1, q2] at hr1
        have k1 := hv_small (s[i1].toNat : Int)
        have k2 := hv_small (s[i2].toNat : Int)
        have HV1 := Lib.hid hr1
        have HK1 := Lib.hid k1
        have HK2 := Lib.hid k2
        have g1i : (i : Int) + 1 = (i1 : Int) := by omega
        have g2i : (i : Int) + 2 = (i2 : Int) := by omega
        have g1j : (i1 : Int) < s.size := by omega
        have g2j : (i2 : Int) < s.size := by omega
        clear hb q1 q2 k1 k2 hi1e hi2e c0 c1 hrl hr1 HAT HA0 HRL HB8
        subst hr2
        go_upto_region 9 with fail
        go_quiet ((go_at_call 52; exact Calls.quiet_of_same ((value_any _ (Int.natCast_nonneg _) (u8_lt _) _).mono fun e w' ⟨a, b⟩ => ⟨a, b.symm⟩)))
        go_wp2_with fail
        go_meet
        case rel => exact ⟨by rw [← HV1.out]; have a1 := HK1.out; have a2 := HK2.out; unfold hv at a1 a2 ⊢; congr 1; omega, rfl, Lib.hid (HO.out.drewN _), Lib.hid (below_drewN HB.out _)⟩
       | false =>
        have hn := of_decide_eq_false HB8.out
        have hrl := HRL.out
        have hnr : ¬(r.getD 0 0 = 92 ∧ 3 ≤ r.length) := fun h => hn ⟨HA0.out.symm.trans h.1, by omega⟩
        rw [rs1, if_neg hnr, HA0.out] at hr1
        rw [rs2, if_neg hnr] at hr2
        subst hr1
        subst hr2
        clear hrl HAT HA0 HRL hn hnr HB8
        go_wp2_with fail
        go_meet
        case rel => exact ⟨rfl, rfl, HO, HB⟩
      case rest =>
      clear HO HB
      obtain ⟨rfl, rfl, HO, HB⟩ := hcut
      have HON := Lib.hid (show ∀ u ∈ [Value.int .u8 r1], u.oneCell' = true from fun u hu => by rw [List.mem_singleton.1 hu]; rfl)
      clear HB8 HR1 HR2 HAT HA0 HRL
      have HSG := Lib.hid fun w2 => sign_any r1 RS.out.1 RS.out.2 w2
      obtain ⟨i3, hi3⟩ : ∃ i3, i3 = i + r2 := ⟨_, rfl⟩
      have e3 : (i : Int) + (r2 : Int) = (i3 : Int) := by omega
      have g3 : i3 ≤ s.size := by omega
      have g3i : (i3 : Int) ≤ s.size := by omega
      have gi3 : (i : Int) ≤ (i3 : Int) := by omega
      have HR23 := Lib.hid hr23
      have hr2i : (r2 : Int) ≤ 3 := by omega
      have hw3 : IntKind.i64.wrap (i3 : Int) = (i3 : Int) := IntWalk.i64_in _ (by omega)
      have HI3 := Lib.hid hi3
      have HEX : Hid (r.take r2 = bys (s.extract i i3)) := Lib.hid (by
       rw [bys_extract s i i3 g3, ← HR.out, hi3]
       apply List.ext_getElem?
       intro j
       by_cases hj : j < r2
       ·rw [List.getElem?_take, if_pos hj, uq_at j (by have := HI2.out; omega), List.getElem?_take, if_pos (by omega), List.getElem?_drop, bys_at s (i + j) (by omega)]
        congr 3
        simp only [show 1 + (i - 1) + j = i + j by omega]
       ·rw [List.getElem?_take, if_neg hj, List.getElem?_take, if_neg (by omega)])
      clear hr23 hi3
      go_upto_region 10 with fail
      refine wp_region_held_drew (S := ext wc.drew) (by kernel_rfl) (Below.refl _ _) (fun hH0 => ?_)
      have h0 : Below wc.drew.heap.size wc.drew wc.drew := Below.refl _ _
      refine wpAnyH_take (i := 0) (oi := { dst := some 56, op := Op.move (Operand.tmp 6), type := 5, pos := "ref.go:87", after := #[], guard := none }) (v := ?_) rfl (by kernel_rfl) (by kernel_rfl) (by kernel_rfl) (fun _ _ _ h => h) (Or.inl ⟨by rfl, ?_⟩) (by assumption) ?_
      rotate_left
      ·(intro w' hSw; go_simp; try with_reducible rfl)
      try simp only [Act.put, List.setIfInBounds_toArray, List.set_cons_zero, List.set_cons_succ]
      refine wpAnyH_take (i := 2) (oi := { dst := some 58, op := Op.move (Operand.tmp 0), type := 9, pos := "ref.go:87", after := #[], guard := none }) (v := ?_) rfl (by kernel_rfl) (by kernel_rfl) (by kernel_rfl) (fun _ _ _ h => h) (Or.inl ⟨by rfl, ?_⟩) (by assumption) ?_
      rotate_left
      ·(intro w' hSw; go_simp; try with_reducible rfl)
      try simp only [Act.put, List.setIfInBounds_toArray, List.set_cons_zero, List.set_cons_succ]
      refine wpAnyH_take (i := 3) (oi := { dst := some 59, op := Op.move (Operand.tmp 5), type := 3, pos := "ref.go:87", after := #[], guard := none }) (v := ?_) rfl (by kernel_rfl) (by kernel_rfl) (by kernel_rfl) (fun _ _ _ h => h) (Or.inl ⟨by rfl, ?_⟩) (by assumption) ?_
      rotate_left
      ·(intro w' hSw; go_simp; try with_reducible rfl)
      try simp only [Act.put, List.setIfInBounds_toArray, List.set_cons_zero, List.set_cons_succ]
      refine wpAnyH_take (i := 4) (oi := { dst := some 60, op := Op.move (Operand.tmp 5), type := 3, pos := "ref.go:87", after := #[], guard := none }) (v := ?_) rfl (by kernel_rfl) (by kernel_rfl) (by kernel_rfl) (fun _ _ _ h => h) (Or.inl ⟨by rfl, ?_⟩) (by assumption) ?_
      rotate_left
      ·(intro w' hSw; go_simp; try with_reducible rfl)
      try simp only [Act.put, List.setIfInBounds_toArray, List.set_cons_zero, List.set_cons_succ]
      refine wpAnyH_take (i := 5) (oi := { dst := some 61, op := Op.move (Operand.tmp 7), type := 3, pos := "ref.go:87", after := #[], guard := none }) (v := ?_) rfl (by kernel_rfl) (by kernel_rfl) (by kernel_rfl) (fun _ _ _ h => h) (Or.inl ⟨by rfl, ?_⟩) (by assumption) ?_
      rotate_left
      ·(intro w' hSw; go_simp; try with_reducible rfl)
      try simp only [Act.put, List.setIfInBounds_toArray, List.set_cons_zero, List.set_cons_succ]
      refine wpAnyH_take (i := 6) (oi := { dst := some 62, op := Op.binOp BinOp.add 3 (Operand.tmp 60) (Operand.tmp 61) 3, type := 3, pos := "ref.go:87", after := #[{ on := 4, ground := Ground.data }, { on := 5, ground := Ground.data }], guard := none }) (v := ?_) rfl (by kernel_rfl) (by kernel_rfl) (by kernel_rfl) (fun _ _ _ h => h) (Or.inl ⟨by rfl, ?_⟩) (by assumption) ?_
      rotate_left
      ·(intro w' hSw; go_simp; try with_reducible rfl)
      try simp only [Act.put, List.setIfInBounds_toArray, List.set_cons_zero, List.set_cons_succ]
      refine wpAnyH_take (i := 7) (oi := { dst := some 63, op := Op.slice 9 (Operand.tmp 58) (some (Operand.tmp 59)) (some (Operand.tmp 62)) none, type := 9, pos := "ref.go:87", after := #[{ on := 2, ground := Ground.data }, { on := 3, ground := Ground.data }, { on := 6, ground := Ground.data }], guard := none }) (v := ?_) rfl (by kernel_rfl) (by kernel_rfl) (by kernel_rfl) (fun _ _ _ h => h) (Or.inl ⟨by rfl, ?_⟩) (by assumption) ?_
      rotate_left
      ·(intro w' hSw; go_simp; try with_reducible rfl)
      try simp only [Act.put, List.setIfInBounds_toArray, List.set_cons_zero, List.set_cons_succ]
      refine wpAnyH_ready (rs := [1]) (by kernel_rfl) (by simp) ?_
      refine AllReadyH.cons (o := { dst := some 57, op := Op.call { callee := Callee.value (Operand.func 46), args := #[Operand.tmp 56], argTypes := #[5] }, type := 9, pos := "ref.go:87", after := #[{ on := 0, ground := Ground.data }], guard := none }) rfl (fun K hK => ?_) AllReadyH.nil
      go_simp
      refine (HSG.out _).mono ?_
      rintro e v1 ⟨rfl, hb⟩
      have h1 : Below wc.drew.heap.size wc.drew v1 := below_trans h0 hb
      clear hb
      dsimp only
      refine hK.out _ _ h1 (fun hHeld => ?_)
      clear hK K
      try simp only [Act.put, List.setIfInBounds_toArray, List.set_cons_zero, List.set_cons_succ]
      refine wpAnyH_take (i := 8) (oi := { dst := some 64, op := Op.binOp BinOp.neq 9 (Operand.tmp 57) (Operand.tmp 63) 9, type := 4, pos := "ref.go:87", after := #[{ on := 1, ground := Ground.data }, { on := 7, ground := Ground.data }], guard := none }) (v := ?_) rfl (by kernel_rfl) (by kernel_rfl) (by kernel_rfl) (fun _ _ _ h => h) (Or.inl ⟨by rfl, ?_⟩) (by assumption) ?_
      rotate_left
      ·(intro w' hSw; go_simp; try with_reducible rfl)
      try simp only [Act.put, List.setIfInBounds_toArray, List.set_cons_zero, List.set_cons_succ]
      refine wpAnyH_done (by kernel_rfl) ?_ _
      have HB1 := Lib.hid (below_trans (blw_drewN HB.out 1) h1)
      have HO1 := Lib.hid (own_later (HO.out.drewN 1) h1)
      clear hH0 h0 h1 HO HB HSG
      have hol : out.length ≤ 100000 := by have := HU.out.2.2.2; omega
      go_wp2_with (at_builtin; refine ap_rd elem_by rfl (.tmp 65) (.tmp 67) rfl w.heap.size _ out.length _ rfl (HO1.out.alloc _) _ 1 [.int .u8 r1] rfl (rd_one _ _ 1 #[.int .u8 r1] rfl) (by simp [Value.oneCell']) (by omega) (by have := HB1.out.size; simp; omega) ?_; intro pa ca wa ho hb; have HO2 := Lib.hid ho; have HBa := Lib.hid ((below_alloc HB1.out _).trans hb); clear ho hb)
      ·rename_i hq
       have hnq := RN.out (fun e => absurd hq (by
        have : strOfNums (signL r1) = s.extract i i3 := bys_inj (by rw [bys_strOf (fun y hy => by have := sign_bytes RS.out y hy; omega), e, HEX.out])
        rw [this]; simp))
       have he := uq_stop HU.out (by omega) (by rw [HR.out]; exact hnq)
       go_ret2
       exact ⟨by rw [he]; rfl, HB1.out⟩
      ·rename_i hq
       have heq := RY.out (by rw [← bys_strOf (xs := signL r1) (fun y hy => by have := sign_bytes RS.out y hy; omega), HEX.out]; exact congrArg bys (bytes_ext (by simpa using hq)))
       obtain ⟨h1, h2', h3⟩ := uq_step HU.out (by rw [HR.out]; exact heq)
       exact ⟨⟨i3, out ++ [r1], pa, ca, by rw [show i3 - 1 = i - 1 + r2 by have := HI3.out; omega]; exact h1, by have := HI3.out; omega, rfl, by simp, Lib.hid (by rw [List.length_append, List.length_singleton, u8s, List.map_append]; exact HO2.out), HBa⟩, by simp [intOf, hw3]; have := HI3.out; omega⟩
     ·have hie : i + 1 = s.size := by omega
      have he := uq_done hu (by omega)
      have hcv := conv_rd1 (w := wr) (p := q) (n := out.length) (c := k) (xs := out) HO.out.rd
      have hii : (s.size : Int) - 1 ≤ (i : Int) := by omega
      clear hu hi2
      go_wp2_with fail
      go_ret2
      exact ⟨by rw [he]; rfl, HB.out⟩
   ·have e : unquoteL (bys s) = none := by rw [unquoteL, if_pos (Or.inr (Or.inr (by rw [bys_len, b1]; exact hq1)))]
    rw [e]
    have g0 : ((s[0].toNat : Int) != 34) = false := by simpa using hq0
    have g1 : ((s[s.size - 1].toNat : Int) != 34) = true := by simpa using hq1
    go_wp2_with fail
    go_ret2
    exact ⟨rfl, Below.refl _ _⟩
  ·have e : unquoteL (bys s) = none := by rw [unquoteL, if_pos (Or.inr (Or.inl (by rw [b0]; exact hq0)))]
   rw [e]
   have g0 : ((s[0].toNat : Int) != 34) = true := by simpa using hq0
   go_wp2_with fail
   go_ret2
   exact ⟨rfl, Below.refl _ _⟩
end vw
end Go.Proofs.Ytahcndkifplekaa
