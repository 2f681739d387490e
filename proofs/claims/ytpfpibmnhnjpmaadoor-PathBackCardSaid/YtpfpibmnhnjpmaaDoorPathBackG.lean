/- What PathBack wants, part 7. -/
import Derived.Test.YtpfpibmnhnjpmaaDoorPathBackA
import Derived.Test.YtpfpibmnhnjpmaaDoorPathBackF
import Derived.Deep.WholeRow
/- A sector in a block of its own. -/
namespace Go.Proofs.YtpfpibmnhnjpmaaDoor.dsk
set_option maxRecDepth 100000
open Go.ChangeShapes Go.WideShapes Go.ChangeAt Go.RowKit
open Go.Proofs.YtpfpibmnhnjpmaaDoor.rows
open Go.Proofs.YtpfpibmnhnjpmaaDoor.sec
set_option linter.unusedVariables false
set_option linter.unusedSimpArgs false

abbrev agg (s : List Int) : Value := .agg (u8s s).toArray
end Go.Proofs.YtpfpibmnhnjpmaaDoor.dsk
/- What the reference's Fail and Read give. -/
namespace Go.Proofs.YtpfpibmnhnjpmaaDoor.dsk
set_option maxRecDepth 100000
open Go.ChangeShapes Go.WideShapes Go.ChangeAt Go.RowKit
open Go.Proofs.YtpfpibmnhnjpmaaDoor.rows
open Go.Proofs.YtpfpibmnhnjpmaaDoor.sec
set_option linter.unusedVariables false
set_option linter.unusedSimpArgs false

def fail (st : St) (zs : List Int) : St := { st with bad := zs, asked := 0 }
end Go.Proofs.YtpfpibmnhnjpmaaDoor.dsk
/- The makings of a slice as steps of a region that draws its order, the worlds behind them named. -/
namespace Go.Proofs.YtpfpibmnhnjpmaaDoor.dsk
set_option maxRecDepth 100000
open Go.ChangeShapes Go.WideShapes Go.ChangeAt Go.RowKit
open Go.Proofs.YtpfpibmnhnjpmaaDoor.rows
open Go.Proofs.YtpfpibmnhnjpmaaDoor.sec
set_option linter.unusedVariables false
set_option linter.unusedSimpArgs false

theorem own_later {w w' : World} {B : Nat} {e : TypeId} {sz n : Nat} {v : Value} {cs : List Value} (h : Own w B e sz v n cs) (hb : Below w.heap.size w w') : Own w' B e sz v n cs := by
  refine ⟨h.1, ?_⟩
  rcases h.2 with h2 | ⟨g, cap, cur, hv, h3, h4, h5⟩
  · exact Or.inl h2
  · exact Or.inr ⟨g, cap, cur, hv, h3, (hb.block g (Array.getElem?_eq_some_iff.1 h4).1).trans h4, h5⟩
end Go.Proofs.YtpfpibmnhnjpmaaDoor.dsk
