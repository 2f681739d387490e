/- BdiskPlays' walk, over the code's disk. -/
import Derived.Test.YteobhljkjgocdaaDcKnows
import Derived.Test.YteobhljkjgocdaaDskWalk
namespace Go.Proofs.Yteobhljkjgocdaa.dsk
open Go.ChangeShapes Go.WideShapes Go.ChangeAt Go.RowKit
open Go.Proofs.Yteobhljkjgocdaa.rows
open Go.Proofs.Yteobhljkjgocdaa.sec
set_option linter.unusedVariables false

theorem walkBdiskPlays (p : Option Addr) (n c : Nat) (ss : List (List Int)) (p2 : Option Addr) (m c2 : Nat) (l : List Act0) (W : World) (h1 : Rd W 32 (.slice p n c) n (cellsOf ss)) (hn : n ≤ maxLen) (hs : Secs ss) (h2 : Rd W 38 (.slice p2 m c2) m ((l.map Act0.c).flatten)) (hm : m ≤ maxLen) (hok : ∀ a ∈ l, a.ok W) :
    Calls Try.prog 3 #[.slice p n c, .slice p2 m c2] W fun e w' => e = .returned (.bool true) ∧ Below W.heap.size W w' :=
  walkPlays diskIs diskTells cknows p n c ss p2 m c2 l W h1 hn hs h2 hm hok
end Go.Proofs.Yteobhljkjgocdaa.dsk
