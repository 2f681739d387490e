/- What the reference's Read gives. -/
import Derived.Test.YtpnepooobmbfbaaDskFail
namespace Go.Proofs.Ytpnepooobmbfbaa.dsk
set_option maxRecDepth 100000
open Go.ChangeShapes Go.WideShapes Go.ChangeAt Go.RowKit
open Go.Proofs.Ytpnepooobmbfbaa.rows
open Go.Proofs.Ytpnepooobmbfbaa.sec
set_option linter.unusedVariables false
set_option linter.unusedSimpArgs false

theorem wr_range {w : World} {b o : Nat} {x : Wr} (h : w.rangeAt b o x.c) : w.cell? ⟨b, o, none⟩ = some (.int .i64 x.pos) ∧ w.rangeAt b (o + 1) (u8s x.s) := by
  refine ⟨by have := h 0 _ rfl; simpa using this, ?_⟩
  exact range_left (range_mid (k := 1) h)
end Go.Proofs.Ytpnepooobmbfbaa.dsk
