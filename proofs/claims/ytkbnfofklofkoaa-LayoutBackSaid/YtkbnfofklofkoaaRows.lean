/-
  No cell of these rows narrows 'for every input' (looked for: loops, veiled, ifaces, maps, wideKeys, modest, calm, conditions, laid).
  DERIVED. THE GIVEN ROWS OF THIS SEAT. 4 by the template 'for every input the law returns true; each argument reads behind the call as it read before'; 0 by the template 'total and deterministic' (their statements: YtkbnfofklofkoaaTotals.lean).
  GIVEN WITH THE SEED: the statements are not yours to turn. If you find one false, say at which input.
  Laid BY PROGRAM, IN A SANDBOX (cutbox-rows.mjs): the forced cells as the released guide's own fill.sh prints them over the translation b335eb4b45be18bf… (all of the seat's roots in one cut). By AI agents, Wed Nov 11 2026. No macro, syntax, notation, axiom, sorry.
-/
import Derived.Test.YtkbnfofklofkoaaChecked
import GoSem.Claim
import GoSem.ClaimJoined
import GoSem.ClaimMapViews
import Derived.JoinedTies
import Derived.KernelRfl
namespace Go.Proofs.Ytkbnfofklofkoaa
/- THE CELL 'sum', in the pinned program and in every row, IS THE sha256 OF THE DUMP (.gsa) THAT YtkbnfofklofkoaaProg.lean LOADS. Nothing in Lean hashes anything: it is a label: what it is worth is what the hold of that sum in a sandbox is worth. -/
noncomputable def Try.pinned : Pinned := { name := "ytkbnfofklofkoaa", sum := "b335eb4b45be18bf1bd0f53261d264a6275747a6a649658e0fea579f27b5ec10", checked := Try.checked }
namespace Rows
def none {H : Type} : Left H := { results := [], args := [] }

/-- 'flotsamlaw07.LayoutInodes': WHATEVER THE INPUT: true; the input reads as it did. -/
def layoutInodesSpec : ChangeSpec := { name := "layoutInodes", fn := fun _ => fun
  | [d1, d2] => { results := [.lit (.bool true)], args := [d1, d2] }
  | _ => none }
def layoutInodesRow : OpenClaim := { program := "ytkbnfofklofkoaa", sum := "b335eb4b45be18bf1bd0f53261d264a6275747a6a649658e0fea579f27b5ec10", func := "flotsam/flotsamlaw07.LayoutInodes", spec := "layoutInodes", apart := false }
def LayoutInodesSaid : Prop := layoutInodesRow.holds Try.pinned (OpenSpec.ofChange layoutInodesSpec)

/-- ITS FALSE NEIGHBOUR: 'it returns false'. Refute it at one input. -/
def layoutInodesWrong : ChangeSpec := { name := "layoutInodes", fn := fun _ => fun
  | [d1, d2] => { results := [.lit (.bool false)], args := [d1, d2] }
  | _ => none }
def LayoutInodesWrongFalsely : Prop := layoutInodesRow.holds Try.pinned (OpenSpec.ofChange layoutInodesWrong)

/-- 'flotsamlaw07.LayoutEntries': WHATEVER THE INPUT: true; the input reads as it did. -/
def layoutEntriesSpec : ChangeSpec := { name := "layoutEntries", fn := fun _ => fun
  | [d1, d2, d3] => { results := [.lit (.bool true)], args := [d1, d2, d3] }
  | _ => none }
def layoutEntriesRow : OpenClaim := { program := "ytkbnfofklofkoaa", sum := "b335eb4b45be18bf1bd0f53261d264a6275747a6a649658e0fea579f27b5ec10", func := "flotsam/flotsamlaw07.LayoutEntries", spec := "layoutEntries", apart := false }
def LayoutEntriesSaid : Prop := layoutEntriesRow.holds Try.pinned (OpenSpec.ofChange layoutEntriesSpec)

/-- ITS FALSE NEIGHBOUR: 'it returns false'. Refute it at one input. -/
def layoutEntriesWrong : ChangeSpec := { name := "layoutEntries", fn := fun _ => fun
  | [d1, d2, d3] => { results := [.lit (.bool false)], args := [d1, d2, d3] }
  | _ => none }
def LayoutEntriesWrongFalsely : Prop := layoutEntriesRow.holds Try.pinned (OpenSpec.ofChange layoutEntriesWrong)

/-- 'flotsamlaw07.LayoutMounts': WHATEVER THE INPUT: true; the input reads as it did. -/
def layoutMountsSpec : ChangeSpec := { name := "layoutMounts", fn := fun _ => fun
  | [d] => { results := [.lit (.bool true)], args := [d] }
  | _ => none }
def layoutMountsRow : OpenClaim := { program := "ytkbnfofklofkoaa", sum := "b335eb4b45be18bf1bd0f53261d264a6275747a6a649658e0fea579f27b5ec10", func := "flotsam/flotsamlaw07.LayoutMounts", spec := "layoutMounts", apart := false }
def LayoutMountsSaid : Prop := layoutMountsRow.holds Try.pinned (OpenSpec.ofChange layoutMountsSpec)

/-- ITS FALSE NEIGHBOUR: 'it returns false'. Refute it at one input. -/
def layoutMountsWrong : ChangeSpec := { name := "layoutMounts", fn := fun _ => fun
  | [d] => { results := [.lit (.bool false)], args := [d] }
  | _ => none }
def LayoutMountsWrongFalsely : Prop := layoutMountsRow.holds Try.pinned (OpenSpec.ofChange layoutMountsWrong)

/-- 'flotsamlaw07.LayoutBack': WHATEVER THE INPUT: true; the input reads as it did. -/
def layoutBackSpec : ChangeSpec := { name := "layoutBack", fn := fun _ => fun
  | [d1, d2, d3, d4] => { results := [.lit (.bool true)], args := [d1, d2, d3, d4] }
  | _ => none }
def layoutBackRow : OpenClaim := { program := "ytkbnfofklofkoaa", sum := "b335eb4b45be18bf1bd0f53261d264a6275747a6a649658e0fea579f27b5ec10", func := "flotsam/flotsamlaw07.LayoutBack", spec := "layoutBack", apart := false }
def LayoutBackSaid : Prop := layoutBackRow.holds Try.pinned (OpenSpec.ofChange layoutBackSpec)

/-- ITS FALSE NEIGHBOUR: 'it returns false'. Refute it at one input. -/
def layoutBackWrong : ChangeSpec := { name := "layoutBack", fn := fun _ => fun
  | [d1, d2, d3, d4] => { results := [.lit (.bool false)], args := [d1, d2, d3, d4] }
  | _ => none }
def LayoutBackWrongFalsely : Prop := layoutBackRow.holds Try.pinned (OpenSpec.ofChange layoutBackWrong)

/- THE SECOND FORM. 'bulk': how many values and letters a reading holds, each counted each time it is reached (what is shared counts as often as it is met; a slice's spare places count too). A statement '..UptoSaid' is the law's where the arguments, and the package variables that the reading takes, are together of bulk at most 1048576: NARROWER than '..Said'. Prove '..Said' where nothing that the law and all that it calls make is longer than what came in: it says more and counts as full. Else prove '..UptoSaid'. A law counts once. -/
mutual
def uptoBulk {H : Type} : DataW H → Nat
  | .lit (.string bytes) => bytes.length + 1
  | .lit _ => 1
  | .nil => 1
  | .ptr d => uptoBulk d + 1
  | .slice elems spare => uptoBulkAll elems + uptoBulkAll spare + 1
  | .agg parts => uptoBulkAll parts + 1
  | .iface _ d => uptoBulk d + 1
  | .map entries => uptoBulkEntries entries + 1
  | .held _ => 1
def uptoBulkAll {H : Type} : List (DataW H) → Nat
  | [] => 0
  | d :: r => uptoBulk d + uptoBulkAll r
def uptoBulkEntries {H : Type} : List (Lit × DataW H) → Nat
  | [] => 0
  | x :: r => uptoBulkEntry x + uptoBulkEntries r
def uptoBulkEntry {H : Type} : Lit × DataW H → Nat
  | (.string bytes, d) => bytes.length + uptoBulk d + 1
  | (_, d) => uptoBulk d + 1
 end
def uptoSmall : (H : Type) → List (DataW H) → Bool := fun _ ds => decide (uptoBulkAll ds ≤ 1048576)
def OpenSpec.upto (s : _root_.Go.ChangeSpec) : _root_.Go.OpenSpec := { _root_.Go.OpenSpec.ofChange s with cond := some uptoSmall }

/-- 'flotsamlaw07.LayoutInodes', WHERE WHAT IT READS IS OF BULK AT MOST 1048576: true; the input reads as it did. -/
def layoutInodesUptoRow : OpenClaim := { program := "ytkbnfofklofkoaa", sum := "b335eb4b45be18bf1bd0f53261d264a6275747a6a649658e0fea579f27b5ec10", func := "flotsam/flotsamlaw07.LayoutInodes", spec := "layoutInodes", apart := false, narrowed := true }
def LayoutInodesUptoSaid : Prop := layoutInodesUptoRow.holds Try.pinned (OpenSpec.upto layoutInodesSpec)

/-- 'flotsamlaw07.LayoutEntries', WHERE WHAT IT READS IS OF BULK AT MOST 1048576: true; the input reads as it did. -/
def layoutEntriesUptoRow : OpenClaim := { program := "ytkbnfofklofkoaa", sum := "b335eb4b45be18bf1bd0f53261d264a6275747a6a649658e0fea579f27b5ec10", func := "flotsam/flotsamlaw07.LayoutEntries", spec := "layoutEntries", apart := false, narrowed := true }
def LayoutEntriesUptoSaid : Prop := layoutEntriesUptoRow.holds Try.pinned (OpenSpec.upto layoutEntriesSpec)

/-- 'flotsamlaw07.LayoutMounts', WHERE WHAT IT READS IS OF BULK AT MOST 1048576: true; the input reads as it did. -/
def layoutMountsUptoRow : OpenClaim := { program := "ytkbnfofklofkoaa", sum := "b335eb4b45be18bf1bd0f53261d264a6275747a6a649658e0fea579f27b5ec10", func := "flotsam/flotsamlaw07.LayoutMounts", spec := "layoutMounts", apart := false, narrowed := true }
def LayoutMountsUptoSaid : Prop := layoutMountsUptoRow.holds Try.pinned (OpenSpec.upto layoutMountsSpec)

/-- 'flotsamlaw07.LayoutBack', WHERE WHAT IT READS IS OF BULK AT MOST 1048576: true; the input reads as it did. -/
def layoutBackUptoRow : OpenClaim := { program := "ytkbnfofklofkoaa", sum := "b335eb4b45be18bf1bd0f53261d264a6275747a6a649658e0fea579f27b5ec10", func := "flotsam/flotsamlaw07.LayoutBack", spec := "layoutBack", apart := false, narrowed := true }
def LayoutBackUptoSaid : Prop := layoutBackUptoRow.holds Try.pinned (OpenSpec.upto layoutBackSpec)

end Rows
end Go.Proofs.Ytkbnfofklofkoaa
