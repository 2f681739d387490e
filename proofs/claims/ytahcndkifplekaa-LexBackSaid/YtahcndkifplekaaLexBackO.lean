/- What LexBack wants, part 15. -/
import Derived.Test.YtahcndkifplekaaLexBackB
import Derived.Test.YtahcndkifplekaaLexBackD
import Derived.Test.YtahcndkifplekaaLexBackE
import Derived.Test.YtahcndkifplekaaLexBackG
import Derived.Test.YtahcndkifplekaaLexBackI
import Derived.Test.YtahcndkifplekaaLexBackJ
import Derived.Test.YtahcndkifplekaaLexBackM
import Derived.Test.YtahcndkifplekaaLexBackN
import Derived.Deep.Cut
import Derived.Maps.OwnSet
import Derived.LaidEqlPtr
import Derived.Maps.AppendAt
import Derived.Lib.SliceRun
import Derived.DeepKeys5
import Derived.DeepKeys3
import Derived.Shelf.SlMaps.Clone
import Derived.Outline
import Derived.Lib.BufferWrite
import Derived.Deep.CutRange
set_option linter.unusedVariables false
set_option linter.unusedSimpArgs false
namespace Go.Proofs.Ytahcndkifplekaa
namespace lk
set_option maxRecDepth 100000
open Go.ChangeShapes Go.WideShapes Go.ChangeAt Go.RowKit
open rows
open sec
open dsk (Wr)
open ly
def secAt (ss : List (List Int)) (i : Int) : List Int := if 0 ≤ i ∧ i < (ss.length : Int) then ss.getD i.toNat zero32 else zero32
def wr1 (l : List (List Int)) (x : Wr) : List (List Int) := if 0 ≤ x.pos ∧ x.pos < (l.length : Int) then l.set x.pos.toNat x.s else l
def over (ss : List (List Int)) (ws : List Wr) (i : Nat) : List (List Int) := (ws.take i).foldl wr1 ss
end lk
namespace lk
set_option maxRecDepth 100000
open Go.ChangeShapes Go.WideShapes Go.ChangeAt Go.RowKit
open rows
open sec
open ly
def inoAt (ss : List (List Int)) (i : Int) : Ino := if 0 ≤ i ∧ i < 16 then inoOfV (secAt ss (1 + i)) else ino0
def entAt (ss : List (List Int)) (k : Int) : Ent := if 0 ≤ k ∧ k < 24 then entOfV (secAt ss (17 + k)) else ent0
end lk
namespace lk
set_option maxRecDepth 100000
open Go.ChangeShapes Go.WideShapes Go.ChangeAt Go.RowKit
def upto (p : Nat → Bool) (k : Nat) : Option Nat := (List.range k).find? p
end lk
namespace pa
set_option maxRecDepth 100000
end pa
namespace al
end al
namespace lk
open Go.ChangeShapes Go.WideShapes Go.ChangeAt Go.RowKit
open rows
open sec
open ly
open pa
def standB (ss : List (List Int)) (k : Nat) : Bool := (entAt ss (k : Int)).used && !decide ((inoAt ss (entAt ss (k : Int)).target).kind = 0)
def inB (ss : List (List Int)) (d : Int) (nm : ByteArray) (k : Nat) : Bool := standB ss k && decide ((entAt ss (k : Int)).parent = d) && decide ((entAt ss (k : Int)).name = nm)
def findO (ss : List (List Int)) (d : Int) (nm : ByteArray) : Option Nat := upto (inB ss d nm) 24
def lookG (ss : List (List Int)) : Int → List (List Int) → Int × Int
 | n, [] => (n, 0)
 | n, x :: r => if (inoAt ss n).kind = 2 then (match findO ss n (strOfNums x) with
  | some k => lookG ss (entAt ss (k : Int)).target r
  | none => (0, 4)) else (0, 6)
def lookV (ss : List (List Int)) (s : List Int) : Int × Int := match splitL s with
 | none => (0, 9)
 | some ns => lookG ss 0 ns
end lk
end Go.Proofs.Ytahcndkifplekaa
