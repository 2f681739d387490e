/- The walks of layer 4's laws. -/
import Derived.Test.YtbahllmbfmdabaaSecCodeB
import Derived.Test.YtbahllmbfmdabaaSecCodeU
import Derived.Test.YtbahllmbfmdabaaSecCodeG
namespace Go.Proofs.Ytbahllmbfmdabaa.sec
open Go.ChangeShapes Go.WideShapes Go.ChangeAt Go.RowKit
open Go.Proofs.Ytbahllmbfmdabaa.rows
theorem knows_any (w : World) : Calls Try.prog 5 #[] w fun e w' => e = .returned (.bool true) ∧ Below w.heap.size w w' := knows_of of_is torn_is zero_is spread_is unlike_is w
theorem code_is : CodeIs := ⟨knows_any, gather_is, spread_is, unlike_is, torn_is, cut_is, put_is⟩
theorem walkSectorLists
    (p1 : Option Addr) (n1 c1 : Nat) (zs : List Int) (p2 : Option Addr) (n2 c2 : Nat) (xs : List (List Int)) (p3 : Option Addr) (n3 c3 : Nat) (ys : List (List Int)) (k : Int) (wk : (Lit.int .i64 k).wf = true) (w : World)
    (h1 : Rd w 1 (.slice p1 n1 c1) n1 (u8s zs)) (l1 : n1 ≤ maxLen) (b1 : Bytes zs) (h2 : Rd w 32 (.slice p2 n2 c2) n2 (cellsOf xs)) (l2 : n2 ≤ maxLen) (b2 : Secs xs) (h3 : Rd w 32 (.slice p3 n3 c3) n3 (cellsOf ys)) (l3 : n3 ≤ maxLen) (b3 : Secs ys) :
    Calls Try.prog 3 #[.slice p1 n1 c1, .slice p2 n2 c2, .slice p3 n3 c3, .int .i64 k] w fun e w' => e = .returned (.bool true) ∧ Below w.heap.size w w' :=
  lists_of knows_any gather_is spread_is unlike_is p1 n1 c1 zs p2 n2 c2 xs p3 n3 c3 ys k wk w h1 l1 b1 h2 l2 b2 h3 l3 b3
theorem walkSectorBack (p1 : Option Addr) (n1 c1 : Nat) (zs : List Int) (s : List Int) (hs : Sec s) (o : List Int) (ho : Sec o) (p2 : Option Addr) (n2 c2 : Nat) (xs : List (List Int)) (i : Int) (wi : (Lit.int .i64 i).wf = true) (w : World)
    (h1 : Rd w 1 (.slice p1 n1 c1) n1 (u8s zs)) (l1 : n1 ≤ maxLen) (b1 : Bytes zs) (h2 : Rd w 32 (.slice p2 n2 c2) n2 (cellsOf xs)) (l2 : n2 ≤ maxLen) (b2 : Secs xs) :
    Calls Try.prog 4 #[.slice p1 n1 c1, agg s, agg o, .slice p2 n2 c2, .int .i64 i] w fun e w' => e = .returned (.bool true) ∧ Below w.heap.size w w' :=
  back_of code_is p1 n1 c1 zs s hs o ho p2 n2 c2 xs i wi w h1 l1 b1 h2 l2 b2
end Go.Proofs.Ytbahllmbfmdabaa.sec
