/- What LayoutInodes wants, part 6. -/
import Derived.Test.YtkbnfofklofkoaaLayoutInodesB
import Derived.Great.BuildSlice
/- What the reference's Barrier and Fail give. -/
namespace Go.Proofs.Ytkbnfofklofkoaa.dsk
set_option maxRecDepth 100000
open Go.ChangeShapes Go.WideShapes Go.ChangeAt Go.RowKit
open Go.Proofs.Ytkbnfofklofkoaa.rows
open Go.Proofs.Ytkbnfofklofkoaa.sec
set_option linter.unusedVariables false
set_option linter.unusedSimpArgs false

/-- few of everything -/
structure St.few (st : St) : Prop where
  ss : Secs st.safe
  ws : ∀ x ∈ st.wait, Sec x.s
  es : ∀ e ∈ st.log, Sec e.2.1.s
  ts : ∀ e ∈ st.log, e.2.2.length ≤ 1000
  wn : st.wait.length ≤ 900
  ln : st.log.length ≤ 900
  bn : st.bad.length ≤ 900
  ep0 : 0 ≤ st.ep
  ep1 : st.ep ≤ 900
  as0 : 0 ≤ st.asked
  as1 : st.asked ≤ 900
end Go.Proofs.Ytkbnfofklofkoaa.dsk
