/- What PathBack wants, part 9. -/
import Derived.Test.YtpfpibmnhnjpmaaDoorPathBackH
import Derived.LaidEqlPtr
import Derived.Maps.AppendAt
import Derived.Lib.SliceRun
import Derived.DeepKeys5
import Derived.DeepKeys3
/- Tags as keys of a map; the code's lastEpoch; how the code's Sync settles, in the document's words. -/
namespace Go.Proofs.YtpfpibmnhnjpmaaDoor.dsk
set_option maxRecDepth 100000
open Go.ChangeShapes Go.WideShapes Go.ChangeAt Go.RowKit
open Go.Proofs.YtpfpibmnhnjpmaaDoor.rows
open Go.Proofs.YtpfpibmnhnjpmaaDoor.sec
open Go.Maps
set_option linter.unusedVariables false
set_option linter.unusedSimpArgs false

def tagL (k i : Int) : Lit := .string (keyBytes [.int .i64 k, .int .i64 i])
/-! what the code's Sync settles -/
end Go.Proofs.YtpfpibmnhnjpmaaDoor.dsk
/- What the code's lastEpoch gives. -/
namespace Go.Proofs.YtpfpibmnhnjpmaaDoor.dsk
open Go.ChangeShapes Go.WideShapes Go.ChangeAt Go.RowKit
open Go.Proofs.YtpfpibmnhnjpmaaDoor.rows
open Go.Proofs.YtpfpibmnhnjpmaaDoor.sec
open Go.Maps
set_option linter.unusedVariables false
set_option linter.unusedSimpArgs false

end Go.Proofs.YtpfpibmnhnjpmaaDoor.dsk
/- How the code's settle works, over lists: for each sector how many of the first writes no longer matter to it; and that what is read stays. -/
namespace Go.Proofs.YtpfpibmnhnjpmaaDoor.dsk
set_option maxRecDepth 100000
open Go.ChangeShapes Go.WideShapes Go.ChangeAt Go.RowKit
open Go.Proofs.YtpfpibmnhnjpmaaDoor.rows
open Go.Proofs.YtpfpibmnhnjpmaaDoor.sec
open Go.Maps
set_option linter.unusedVariables false
set_option linter.unusedSimpArgs false

/-! what is read stays -/
end Go.Proofs.YtpfpibmnhnjpmaaDoor.dsk
/- A slice that is filtered in place: what is left lies at the beginning of the row, what is still to come behind it where it was. -/
namespace Go.Proofs.YtpfpibmnhnjpmaaDoor.dsk
open Go.ChangeShapes Go.WideShapes Go.ChangeAt Go.RowKit
open Go.Proofs.YtpfpibmnhnjpmaaDoor.rows
open Go.Proofs.YtpfpibmnhnjpmaaDoor.sec
open Go.Maps
set_option linter.unusedVariables false
set_option linter.unusedSimpArgs false

theorem wrsC_len {ws : List Wr} (h : ∀ x ∈ ws, Sec x.s) : (wrsC ws).length = ws.length * 36 := chunk_len Wr.c 36 ws fun x hx => Wr.c_len (h x hx)
theorem wrsC_drop {ws : List Wr} {j : Nat} (h : j < ws.length) : wrsC (ws.drop j) = ws[j].c ++ wrsC (ws.drop (j + 1)) := by
  unfold wrsC
  rw [List.drop_eq_getElem_cons h, List.map_cons, List.flatten_cons]
theorem wrsC_snoc (ls : List Wr) (x : Wr) : wrsC (ls ++ [x]) = wrsC ls ++ x.c := by simp [wrsC]
end Go.Proofs.YtpfpibmnhnjpmaaDoor.dsk
/- What the code's settle gives. -/
namespace Go.Proofs.YtpfpibmnhnjpmaaDoor.dsk
open Go.ChangeShapes Go.WideShapes Go.ChangeAt Go.RowKit
open Go.Proofs.YtpfpibmnhnjpmaaDoor.rows
open Go.Proofs.YtpfpibmnhnjpmaaDoor.sec
open Go.Maps
set_option linter.unusedVariables false
set_option linter.unusedSimpArgs false

/-- an array of numbers as it lies in memory -/
def ar (l : List Nat) : Array Value := (l.map fun n : Nat => Value.int .i64 (n : Int)).toArray
end Go.Proofs.YtpfpibmnhnjpmaaDoor.dsk
