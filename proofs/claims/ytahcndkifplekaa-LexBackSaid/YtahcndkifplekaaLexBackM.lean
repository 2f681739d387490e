/- What LexBack wants, part 13. -/
import Derived.Test.YtahcndkifplekaaLexBackJ
import Derived.Test.YtahcndkifplekaaLexBackL
import Derived.Laws.CopyOwn
set_option linter.unusedVariables false
namespace Go.Proofs.Ytahcndkifplekaa
namespace lx
set_option maxRecDepth 100000
open ly
open vw (unquoteL)
open numMath (rN rB)
def keyL : List (List UInt8) := [[112, 114, 111, 99], [109, 97, 105, 110], [114, 101, 99, 111, 118, 101, 114], [111, 114, 97, 99, 108, 101], [99, 114, 101, 97, 116, 101], [109, 107, 100, 105, 114], [119, 114, 105, 116, 101], [97, 112, 112, 101, 110, 100], [116, 114, 117, 110, 99, 97, 116, 101], [114, 101, 110, 97, 109, 101], [117, 110, 108, 105, 110, 107], [102, 115, 121, 110, 99], [102, 100, 97, 116, 97, 115, 121, 110, 99], [115, 121, 110, 99, 100, 105, 114], [98, 97, 114, 114, 105, 101, 114], [108, 101, 116], [105, 102], [101, 108, 115, 101], [114, 101, 112, 101, 97, 116], [99, 97, 108, 108], [116, 120, 110], [99, 111, 109, 109, 105, 116], [114, 101, 112, 108, 97, 121], [97, 115, 115, 101, 114, 116], [101, 120, 105, 115, 116, 115], [115, 105, 122, 101], [114, 101, 97, 100], [110, 111, 116], [97, 110, 100], [111, 114], [116, 114, 117, 101], [102, 97, 108, 115, 101]]
def signL : List (List UInt8) := [[123], [125], [40], [41], [59], [44], [58], [43], [45], [60], [61], [61, 61]]
def letB (c : Int) : Bool := decide (97 ≤ c) && decide (c ≤ 122)
def digB (c : Int) : Bool := decide (48 ≤ c) && decide (c ≤ 57)
def innB (c : Int) : Bool := letB c || digB c || c == 95
def wsB (c : Int) : Bool := c == 32 || c == 9 || c == 10
def keyB (s : ByteArray) : Bool := keyL.any fun k => s.toList == k
def signB (s : ByteArray) : Bool := signL.any fun k => s.toList == k
def headI (s : ByteArray) : Int := (bys s).getD 0 0
def nameB (s : ByteArray) : Bool := decide (1 ≤ s.size) && decide (s.size ≤ 8) && letB (headI s) && (bys s).all innB && !keyB s
structure Wd where
 kind : Int
 s : ByteArray
 n : Int
 pos : Int
def wd0 : Wd := ⟨0, ByteArray.empty, 0, 0⟩
def readW (t : ByteArray) : Wd × Int :=
 if keyB t then (⟨4, t, 0, 0⟩, 0)
 else if nameB t then (⟨1, t, 0, 0⟩, 0)
 else if letB (headI t) then (wd0, 14)
 else if digB (headI t) then (if rB t.data.toList then (⟨2, ByteArray.empty, rN t.data.toList, 0⟩, 0) else (wd0, 12))
 else if headI t = 34 then (match unquoteL (bys t) with
  | none => (wd0, 12)
  | some m => if 64 < m.length then (wd0, 14) else (⟨3, strOfNums m, 0, 0⟩, 0))
 else if signB t then (⟨5, t, 0, 0⟩, 0)
 else (wd0, 12)
def tokN : List Int → Nat
 | [] => 0
 | c :: t => if letB c then ((c :: t).takeWhile innB).length
  else if digB c then ((c :: t).takeWhile digB).length
  else if c = 34 then min ((t.takeWhile fun x => x != 34).length + 2) (t.length + 1)
  else if c = 61 ∧ t.head? = some 61 then 2
  else 1
def skipL : Bool → List Int → List Int
 | _, [] => []
 | true, c :: t => if c = 10 then skipL false t else skipL true t
 | false, c :: t => if wsB c then skipL false t else if c = 35 then skipL true t else c :: t
theorem skip_le : ∀ (b : Bool) (l : List Int), (skipL b l).length ≤ l.length
 | b, [] => by cases b <;> simp [skipL]
 | true, c :: t => by
  rw [skipL]; split
  ·have := skip_le false t; simp; omega
  ·have := skip_le true t; simp; omega
 | false, c :: t => by
  rw [skipL]; split
  ·have := skip_le false t; simp; omega
  ·split
   ·have := skip_le true t; simp; omega
   ·exact Nat.le_refl _
theorem skip_ws : ∀ (l : List Int), skipL false (l.dropWhile wsB) = skipL false l
 | [] => rfl
 | c :: t => by
  rw [List.dropWhile_cons]
  split
  ·rename_i h
   rw [skip_ws t, skipL, if_pos h]
  ·rfl
theorem skip_line : ∀ (l : List Int), skipL false (l.dropWhile fun c => c != 10) = skipL true l
 | [] => rfl
 | c :: t => by
  rw [List.dropWhile_cons]
  split
  ·rename_i h
   rw [skip_line t, skipL, if_neg (by simpa using h)]
  ·rename_i h
   have h10 : c = 10 := by simpa using h
   subst h10
   rfl
theorem skip_hash (t : List Int) : skipL false (35 :: t) = skipL false (((35 :: t).dropWhile fun c => c != 10).dropWhile wsB) := by
 rw [skip_ws, skip_line]
 rfl
theorem skip_done {l : List Int} (h : l.head? ≠ some 35) (hw : ∀ c, l.head? = some c → wsB c = false) : skipL false l = l := by
 cases l with
 | nil => rfl
 | cons c t =>
  rw [skipL, if_neg (by rw [hw c rfl]; decide), if_neg (by intro e; exact h (by rw [e]; rfl))]
theorem skip_head : ∀ (b : Bool) (l : List Int) (c : Int) (t : List Int), skipL b l = c :: t → wsB c = false ∧ c ≠ 35
 | b, [], c, t, h => by cases b <;> simp [skipL] at h
 | true, d :: l, c, t, h => by
  rw [skipL] at h; split at h
  ·exact skip_head false l c t h
  ·exact skip_head true l c t h
 | false, d :: l, c, t, h => by
  rw [skipL] at h; split at h
  ·exact skip_head false l c t h
  ·rename_i h1
   split at h
   ·exact skip_head true l c t h
   ·rename_i h2
    cases h
    exact ⟨by simpa using h1, h2⟩
theorem skip_suffix : ∀ (b : Bool) (l : List Int), skipL b l <:+ l
 | b, [] => by cases b <;> exact List.suffix_refl _
 | true, c :: t => by
  rw [skipL]; split
  ·exact (skip_suffix false t).trans (List.suffix_cons _ _)
  ·exact (skip_suffix true t).trans (List.suffix_cons _ _)
 | false, c :: t => by
  rw [skipL]; split
  ·exact (skip_suffix false t).trans (List.suffix_cons _ _)
  ·split
   ·exact (skip_suffix true t).trans (List.suffix_cons _ _)
   ·exact List.suffix_refl _
theorem tok_pos {c : Int} {t : List Int} : 1 ≤ tokN (c :: t) ∧ tokN (c :: t) ≤ (c :: t).length := by
 rw [tokN]
 have hin : ∀ q : Int → Bool, q c = true → 1 ≤ ((c :: t).takeWhile q).length ∧ ((c :: t).takeWhile q).length ≤ (c :: t).length := fun q hq => by
  refine ⟨?_, (List.takeWhile_prefix _).length_le⟩
  rw [List.takeWhile_cons, if_pos hq, List.length_cons]; omega
 split
 ·rename_i h
  exact hin _ (by rw [innB, h]; rfl)
 split
 ·rename_i h
  exact hin _ h
 split
 ·rw [List.length_cons]; omega
 split
 ·rename_i h
  cases t with
  | nil => simp at h
  | cons d t => simp
 ·simp
def scanF (n : Nat) : Nat → List Int → List Wd × Int × Int
 | 0, _ => ([], 0, 0)
 | f + 1, l => if skipL false l = [] then ([⟨0, ByteArray.empty, 0, n⟩], 0, 0)
  else if (readW (strOfNums ((skipL false l).take (tokN (skipL false l))))).2 ≠ 0 then ([], (readW (strOfNums ((skipL false l).take (tokN (skipL false l))))).2, ((n - (skipL false l).length : Nat) : Int))
  else if (scanF n f ((skipL false l).drop (tokN (skipL false l)))).2.1 ≠ 0 then scanF n f ((skipL false l).drop (tokN (skipL false l)))
  else ({ (readW (strOfNums ((skipL false l).take (tokN (skipL false l))))).1 with pos := ((n - (skipL false l).length : Nat) : Int) } :: (scanF n f ((skipL false l).drop (tokN (skipL false l)))).1, 0, 0)
def scanW (l : List Int) : List Wd × Int × Int := scanF l.length (l.length + 1) l
def contW (pre : List Wd) (q : List Wd × Int × Int) : List Wd × Int × Int := if q.2.1 ≠ 0 then q else (pre ++ q.1, 0, 0)
theorem scan_skip (n f : Nat) (l : List Int) : scanF n f (skipL false l) = scanF n f l := by
 cases f with
 | zero => rfl
 | succ f =>
  have e : skipL false (skipL false l) = skipL false l := by
   cases h : skipL false l with
   | nil => rfl
   | cons c t =>
    have := skip_head _ _ _ _ h
    exact skip_done (by intro e; cases e; exact this.2 rfl) (fun d hd => by cases hd; exact this.1)
  rw [scanF, scanF, e]
theorem scanF_more (n : Nat) : ∀ (f : Nat) (l : List Int), l.length < f → ∀ g, scanF n (f + g) l = scanF n f l
 | 0, l, h, g => by omega
 | f + 1, l, h, g => by
  rw [show f + 1 + g = (f + g) + 1 by omega, scanF, scanF]
  by_cases he : skipL false l = []
  ·rw [if_pos he, if_pos he]
  ·rw [if_neg he, if_neg he]
   obtain ⟨c, t, hc⟩ : ∃ c t, skipL false l = c :: t := by
    cases hh : skipL false l with
    | nil => exact absurd hh he
    | cons c t => exact ⟨c, t, rfl⟩
   have hl := skip_le false l
   have hp := tok_pos (c := c) (t := t)
   rw [← hc] at hp
   rw [scanF_more n f _ (by rw [List.length_drop]; omega) g]
theorem scan_end {n f : Nat} {l : List Int} (h : skipL false l = []) : scanF n (f + 1) l = ([⟨0, ByteArray.empty, 0, n⟩], 0, 0) := by rw [scanF, if_pos h]
theorem scan_bad {n f : Nat} {l : List Int} (h : skipL false l ≠ []) (hr : (readW (strOfNums ((skipL false l).take (tokN (skipL false l))))).2 ≠ 0) :
  scanF n (f + 1) l = ([], (readW (strOfNums ((skipL false l).take (tokN (skipL false l))))).2, ((n - (skipL false l).length : Nat) : Int)) := by rw [scanF, if_neg h, if_pos hr]
theorem scan_next {n f : Nat} {l : List Int} (h : skipL false l ≠ []) (hr : (readW (strOfNums ((skipL false l).take (tokN (skipL false l))))).2 = 0) (pre : List Wd) :
  contW pre (scanF n (f + 1) l) = contW (pre ++ [{ (readW (strOfNums ((skipL false l).take (tokN (skipL false l))))).1 with pos := ((n - (skipL false l).length : Nat) : Int) }]) (scanF n f ((skipL false l).drop (tokN (skipL false l)))) := by
 rw [scanF, if_neg h, if_neg (by rw [hr]; decide)]
 by_cases h2 : (scanF n f ((skipL false l).drop (tokN (skipL false l)))).2.1 ≠ 0
 ·rw [if_pos h2, contW, contW, if_pos h2, if_pos h2]
 ·rw [if_neg h2, contW, contW, if_neg (by simp), if_neg h2, List.append_assoc]; rfl
end lx
namespace ly
set_option maxRecDepth 100000
open Go.RowKit
open rows
open sec
structure Ino where
 kind : Int
 size : Int
 b : List Int
 deriving DecidableEq
def ino0 : Ino := ⟨0, 0, [0, 0, 0, 0]⟩
def need (z : Nat) : Nat := (z + 31) / 32
def blkOk (b : List Int) (m i : Nat) : Bool := if i < m then decide (1 ≤ b.getD i 0) && decide (b.getD i 0 ≤ 24) && !(b.take i).contains (b.getD i 0) else b.getD i 0 == 0
def blks (b : List Int) (m j : Nat) : Bool := (List.range j).all (blkOk b m)
def rightI (x : Ino) : Bool := if x.kind = 0 ∨ x.kind = 2 then x.size == 0 && x.b == [0, 0, 0, 0] else x.kind == 1 && decide (0 ≤ x.size) && decide (x.size ≤ 128) && blks x.b (need x.size.toNat) 4
def inoSec (x : Ino) : List Int := x.kind :: x.size :: (x.b ++ List.replicate 26 0)
def inoOf (s : List Int) : Ino := ⟨s.getD 0 0, s.getD 1 0, (s.drop 2).take 4⟩
def inoOfB (s : List Int) : Bool := rightI (inoOf s) && decide (inoSec (inoOf s) = s)
def inoOfV (s : List Int) : Ino := if inoOfB s then inoOf s else ino0
end ly
namespace ly
set_option maxRecDepth 100000
open Go.RowKit
open rows
open sec
structure Ent where
 used : Bool
 parent : Int
 name : ByteArray
 target : Int
def ent0 : Ent := ⟨false, 0, ByteArray.empty, 0⟩
def rightE (x : Ent) : Bool := if x.used then decide (0 ≤ x.parent) && decide (x.parent < 16) && decide (1 ≤ x.target) && decide (x.target < 16) && nameB x.name else x.parent == 0 && x.name.toList == [] && x.target == 0
def entSec (x : Ent) : List Int := (if x.used then 1 else 0) :: x.parent :: x.target :: (x.name.size : Int) :: (List.replicate 12 0 ++ (bys x.name ++ List.replicate (16 - x.name.size) 0))
end ly
namespace ly
set_option maxRecDepth 100000
open Go.RowKit
open rows
open sec
def entC (s : List Int) : Ent := ⟨s.getD 0 0 == 1, s.getD 1 0, strOfNums (cutOf s 16 (s.getD 3 0)), s.getD 2 0⟩
def entOfB (s : List Int) : Bool := rightE (entC s) && decide (entSec (entC s) = s)
def entOfV (s : List Int) : Ent := if entOfB s then entC s else ent0
end ly
end Go.Proofs.Ytahcndkifplekaa
