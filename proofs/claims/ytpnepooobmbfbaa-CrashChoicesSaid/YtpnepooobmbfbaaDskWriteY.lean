/- What the reference's Write gives where it writes. -/
import Derived.Test.YtpnepooobmbfbaaDskRead
import Derived.Test.YtpnepooobmbfbaaDskSteps
import Derived.Deep.Cut
namespace Go.Proofs.Ytpnepooobmbfbaa.dsk
set_option maxRecDepth 100000
open Go.ChangeShapes Go.WideShapes Go.ChangeAt Go.RowKit
open Go.Proofs.Ytpnepooobmbfbaa.rows
open Go.Proofs.Ytpnepooobmbfbaa.sec
set_option linter.unusedVariables false
set_option linter.unusedSimpArgs false

theorem At.touch {S : Nat → Prop} {w w' : World} {g : Nat} {s : List Int} (h : At w g s) (ht : Touch S w w') (hs : ¬ S g) : At w' g s := (ht.block g (Array.getElem?_eq_some_iff.1 h).1 hs).trans h
theorem row_touch {S : Nat → Prop} {w w' : World} {g : Nat} {o : Obj} (h : w.heap[g]? = some o) (ht : Touch S w w') (hs : ¬ S g) : w'.heap[g]? = some o := (ht.block g (Array.getElem?_eq_some_iff.1 h).1 hs).trans h
/-- the write x lies in block g -/
def AtW (w : World) (g : Nat) (x : Wr) : Prop := w.heap[g]? = some (.cells x.c.toArray 79 (0, 0))
theorem AtW.range {w : World} {g : Nat} {x : Wr} (h : AtW w g x) : w.rangeAt g 0 x.c := by
  have := World.rangeAt_of_block h 0 x.c.toArray.size
  simpa using this
end Go.Proofs.Ytpnepooobmbfbaa.dsk
