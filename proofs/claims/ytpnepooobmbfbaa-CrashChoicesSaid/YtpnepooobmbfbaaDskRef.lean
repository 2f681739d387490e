/- What the small functions of the disk's reference give. -/
import Derived.Test.YtpnepooobmbfbaaDskMath
import Derived.Test.YtpnepooobmbfbaaSecSame
namespace Go.Proofs.Ytpnepooobmbfbaa.dsk
set_option maxRecDepth 100000
open Go.ChangeShapes Go.WideShapes Go.ChangeAt Go.RowKit
open Go.Proofs.Ytpnepooobmbfbaa.rows
open Go.Proofs.Ytpnepooobmbfbaa.sec
set_option linter.unusedVariables false

/-! the reference's disk -/
structure St where
  safe : List (List Int)
  wait : List Wr
  ep : Int
  log : List (Int × Wr × List (Int × Int))
  bad : List Int
  asked : Int
abbrev Ev := Int × Wr × List (Int × Int)
/-- an event's cells, and the tags that its last one shows -/
def evC (e : Ev) (v : Value) : List Value := .int .i64 e.1 :: (e.2.1.c ++ [v])
structure EvsIn (S : Nat → Prop) (w : World) (v : Value) (es : List Ev) (n : Nat) (vs : List Value) : Prop where
  len : vs.length = es.length
  cells : Rd w 38 v n ((es.zip vs).map fun x => evC x.1 x.2).flatten
  at_ : InS S v
  tags : ∀ i (h : i < es.length), ∃ p c, vs[i]? = some (.slice p (es[i]).2.2.length c) ∧ Rd w 2 (.slice p (es[i]).2.2.length c) (es[i]).2.2.length (tagsC (es[i]).2.2) ∧ InS S (.slice p (es[i]).2.2.length c)
end Go.Proofs.Ytpnepooobmbfbaa.dsk
