/- step, over what the code's disk gives. -/
import Derived.Test.YtpnepooobmbfbaaDskSettle
import Derived.Deep.Cut
import Derived.Test.YtpnepooobmbfbaaDskArgs
namespace Go.Proofs.Ytpnepooobmbfbaa.dsk
set_option maxRecDepth 100000
open Go.ChangeShapes Go.WideShapes Go.ChangeAt Go.RowKit
open Go.Proofs.Ytpnepooobmbfbaa.rows
open Go.Proofs.Ytpnepooobmbfbaa.sec
set_option linter.unusedVariables false
set_option linter.unusedSimpArgs false

/-- the act that step has boxed -/
def Boxed (gb : Nat) (a : Act0) (w : World) : Prop := w.heap[gb]? = some (.cells a.c.toArray 67 (0, 0))
theorem Boxed.range {gb : Nat} {a : Act0} {w : World} (h : Boxed gb a w) : w.rangeAt gb 0 a.c := by
  have := World.rangeAt_of_block h 0 a.c.toArray.size
  simpa using this
theorem Boxed.touch {gb : Nat} {a : Act0} {w w' : World} {S : Nat → Prop} (h : Boxed gb a w) (ht : Touch S w w') (hs : ¬ S gb) : Boxed gb a w' := row_touch h ht hs
end Go.Proofs.Ytpnepooobmbfbaa.dsk
/- step, over what the code's disk gives: Sync. -/
namespace Go.Proofs.Ytpnepooobmbfbaa.dsk
open Go.ChangeShapes Go.WideShapes Go.ChangeAt Go.RowKit
open Go.Proofs.Ytpnepooobmbfbaa.rows
open Go.Proofs.Ytpnepooobmbfbaa.sec
set_option linter.unusedVariables false
set_option linter.unusedSimpArgs false

end Go.Proofs.Ytpnepooobmbfbaa.dsk
/- step, over what the code's disk gives: Barrier, Fail and Read. -/
namespace Go.Proofs.Ytpnepooobmbfbaa.dsk
open Go.ChangeShapes Go.WideShapes Go.ChangeAt Go.RowKit
open Go.Proofs.Ytpnepooobmbfbaa.rows
open Go.Proofs.Ytpnepooobmbfbaa.sec
set_option linter.unusedVariables false
set_option linter.unusedSimpArgs false

end Go.Proofs.Ytpnepooobmbfbaa.dsk
/- step, over what the code's disk gives: Fail and Read. -/
namespace Go.Proofs.Ytpnepooobmbfbaa.dsk
open Go.ChangeShapes Go.WideShapes Go.ChangeAt Go.RowKit
open Go.Proofs.Ytpnepooobmbfbaa.rows
open Go.Proofs.Ytpnepooobmbfbaa.sec
set_option linter.unusedVariables false
set_option linter.unusedSimpArgs false

end Go.Proofs.Ytpnepooobmbfbaa.dsk
/- step, over what the code's disk gives: Fail. -/
namespace Go.Proofs.Ytpnepooobmbfbaa.dsk
open Go.ChangeShapes Go.WideShapes Go.ChangeAt Go.RowKit
open Go.Proofs.Ytpnepooobmbfbaa.rows
open Go.Proofs.Ytpnepooobmbfbaa.sec
set_option linter.unusedVariables false
set_option linter.unusedSimpArgs false

end Go.Proofs.Ytpnepooobmbfbaa.dsk
/- step over any act: what state comes next, and that it stays small. -/
namespace Go.Proofs.Ytpnepooobmbfbaa.dsk
open Go.ChangeShapes Go.WideShapes Go.ChangeAt Go.RowKit
open Go.Proofs.Ytpnepooobmbfbaa.rows
open Go.Proofs.Ytpnepooobmbfbaa.sec
set_option linter.unusedVariables false
set_option linter.unusedSimpArgs false

/-- what holds behind k acts -/
structure St.good (k : Nat) (st : St) : Prop where
  ss : Secs st.safe
  n1 : st.safe.length ≤ 65
  ws : ∀ x ∈ st.wait, Sec x.s ∧ 0 ≤ x.pos ∧ x.pos < (st.safe.length : Int)
  es : ∀ e ∈ st.log, Sec e.2.1.s ∧ e.2.2.length ≤ 50
  wn : st.wait.length ≤ k
  ln : st.log.length ≤ k
  bn : st.bad.length ≤ 50
  ep : 0 ≤ st.ep ∧ st.ep ≤ k
  asked : 0 ≤ st.asked ∧ st.asked ≤ k
end Go.Proofs.Ytpnepooobmbfbaa.dsk
